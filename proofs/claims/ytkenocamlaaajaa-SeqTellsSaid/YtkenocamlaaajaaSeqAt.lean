/- Package seq: around, between. -/
import Derived.Test.YtkenocamlaaajaaSeqCut
namespace Go.Proofs.Ytkenocamlaaajaa.fin
open Go Go.RowKit Go.Proofs.Ytkenocamlaaajaa.mono

set_option maxRecDepth 100000 in
set_option maxHeartbeats 4000000 in
theorem around_no {u : Value} {L : List Int} {w : World} (i : Int) (h : IsT w u L) (hi : i < 0 ∨ (L.length : Int) ≤ i) :
    Calls Try.prog 38 #[u, .int .i64 i] w fun e w' => e = .returned (.tuple #[.agg #[.pointer none], .int .i64 0, .agg #[.pointer none], .bool false]) ∧ Below w.heap.size w w' := by
  obtain ⟨p, rfl, h⟩ := h
  obtain ⟨W, hW⟩ : ∃ W, ((w.alloc (.cells #[.pointer p] 30)).alloc (.cells #[.pointer none] 28)).alloc (.cells #[.pointer none] 28) = W := ⟨_, rfl⟩
  have hA : hp.Blk W w.heap.size 30 [.pointer p] := by rw [← hW]; exact ((hp.Blk.new w [.pointer p] _).alloc _).alloc _
  have hR1 : hp.Blk W (w.heap.size + 1) 28 [.pointer none] := by rw [← hW]; exact (hp.Blk.newAt (by simp)).alloc _
  have hR2 : hp.Blk W (w.heap.size + 1 + 1) 28 [.pointer none] := by rw [← hW]; exact hp.Blk.newAt (by simp)
  have hb : Below w.heap.size w W := by rw [← hW]; ((repeat' (first | with_reducible exact Below.refl _ _ | with_reducible apply Below.setCell | with_reducible apply below_drewN | with_reducible apply Below.drew | with_reducible apply Below.alloc | with_reducible refine Below.trans ?_ (Below.mono (by assumption) ?_))) <;> (first | (simp; done) | (simp; omega) | omega))
  have a0 := hA.cell 0
  have la := hA.lt
  simp only [List.getElem?_cons_zero] at a0
  have H := sLen (IsT.mk (h.on hb))
  clear h
  by_cases h0 : i < 0
  · (have c1 := hR1.cell 0; have f1 := hR1.free; have l1 := hR1.lt; have l2 := hR2.lt; have f2 := (hR2.other (a := ⟨w.heap.size + 1, 0, none⟩) (by simp) (.pointer none)).free; have c2 := (hR2.other (a := ⟨w.heap.size + 1, 0, none⟩) (by simp) (.pointer none)).cell 0; have y1 := ((hR1.set 0 (.pointer none)).other (a := ⟨w.heap.size + 1 + 1, 0, none⟩) (by simp) (.pointer none)).cell 0; have y2 := ((hR2.other (a := ⟨w.heap.size + 1, 0, none⟩) (by simp) (.pointer none)).set 0 (.pointer none)).cell 0; simp only [List.getElem?_cons_zero, List.set_cons_zero] at c1 c2 y1 y2)
    clear H hi
    go_enter Try.func38, Try.ntmps38
    go_wp2_with fail
    exact bodyPost_ret (v := .tuple #[.agg #[.pointer none], .int .i64 0, .agg #[.pointer none], .bool false]) (by simp [results, Try.results38, go_sem, y1, y2]) rfl ⟨rfl, (hb.setCell (p := ⟨w.heap.size + 1, 0, none⟩) (by simp) _).setCell (p := ⟨w.heap.size + 1 + 1, 0, none⟩) (by show _ ≤ w.heap.size + 1 + 1; omega) _⟩
  · have h1 : (L.length : Int) ≤ i := by omega
    clear hi
    obtain ⟨n, hn⟩ : ∃ n, L.length = n := ⟨_, rfl⟩
    rw [hn] at H h1
    clear hn hA
    go_enter Try.func38, Try.ntmps38
    go_wp2_with (go_at_call 23; (with_reducible refine H.mono ?_); clear H; rintro e w9 ⟨rfl, K9⟩; have hr1 := hR1.on K9; have hr2 := hR2.on K9; (have c1 := hr1.cell 0; have f1 := hr1.free; have l1 := hr1.lt; have l2 := hr2.lt; have f2 := (hr2.other (a := ⟨w.heap.size + 1, 0, none⟩) (by simp) (.pointer none)).free; have c2 := (hr2.other (a := ⟨w.heap.size + 1, 0, none⟩) (by simp) (.pointer none)).cell 0; have y1 := ((hr1.set 0 (.pointer none)).other (a := ⟨w.heap.size + 1 + 1, 0, none⟩) (by simp) (.pointer none)).cell 0; have y2 := ((hr2.other (a := ⟨w.heap.size + 1, 0, none⟩) (by simp) (.pointer none)).set 0 (.pointer none)).cell 0; simp only [List.getElem?_cons_zero, List.set_cons_zero] at c1 c2 y1 y2))
    exact bodyPost_ret (v := .tuple #[.agg #[.pointer none], .int .i64 0, .agg #[.pointer none], .bool false]) (by simp [results, Try.results38, go_sem, y1, y2]) rfl ⟨rfl, ((hb.trans (K9.mono hb.size)).setCell (p := ⟨w.heap.size + 1, 0, none⟩) (by simp) _).setCell (p := ⟨w.heap.size + 1 + 1, 0, none⟩) (by show _ ≤ w.heap.size + 1 + 1; omega) _⟩

set_option maxRecDepth 100000 in
set_option maxHeartbeats 8000000 in
theorem around_yes {u : Value} {L X Y : List Int} {x : Int} {k : Nat} {w : World} (h : IsT w u L) (hL : X ++ x :: Y = L) (hk : X.length = k) (hbd : L.length ≤ 4611686018427387904) :
    Calls Try.prog 38 #[u, .int .i64 k] w fun e w' => (∃ a b, e = .returned (.tuple #[.agg #[.pointer a], .int .i64 x, .agg #[.pointer b], .bool true]) ∧ IsT w' (.agg #[.pointer a]) X ∧ IsT w' (.agg #[.pointer b]) Y) ∧ Below w.heap.size w w' := by
  obtain ⟨p, rfl, h⟩ := h
  obtain ⟨W, hW⟩ : ∃ W, ((w.alloc (.cells #[.pointer p] 30)).alloc (.cells #[.pointer none] 28)).alloc (.cells #[.pointer none] 28) = W := ⟨_, rfl⟩
  have hA : hp.Blk W w.heap.size 30 [.pointer p] := by rw [← hW]; exact ((hp.Blk.new w [.pointer p] _).alloc _).alloc _
  have hR1 : hp.Blk W (w.heap.size + 1) 28 [.pointer none] := by rw [← hW]; exact (hp.Blk.newAt (by simp)).alloc _
  have hR2 : hp.Blk W (w.heap.size + 1 + 1) 28 [.pointer none] := by rw [← hW]; exact hp.Blk.newAt (by simp)
  have hb : Below w.heap.size w W := by rw [← hW]; ((repeat' (first | with_reducible exact Below.refl _ _ | with_reducible apply Below.setCell | with_reducible apply below_drewN | with_reducible apply Below.drew | with_reducible apply Below.alloc | with_reducible refine Below.trans ?_ (Below.mono (by assumption) ?_))) <;> (first | (simp; done) | (simp; omega) | omega))
  have la := hA.lt
  have a0 := hA.cell 0
  simp only [List.getElem?_cons_zero] at a0
  have hkL : k < L.length := by rw [← hL, List.length_append, List.length_cons]; omega
  have hX : L.take k = X := by rw [← hL, ← hk]; simp
  have hY : L.drop k = x :: Y := by rw [← hL, ← hk]; simp
  have H1 := sLen (IsT.mk (h.on hb))
  have H2 := fun V (K : Below W.heap.size W V) => cut_any k X (x :: Y) (IsT.mk ((h.on hb).on K)) (by omega) hX hY hbd
  have H3 := fun V u (h : IsT V u (x :: Y)) => popLeft (l := Y) (x :: Y) h rfl (by have := congrArg List.length hY; simp at this ⊢; omega)
  obtain ⟨n, hn⟩ : ∃ n, L.length = n := ⟨_, rfl⟩
  rw [hn] at H1 hkL
  have hkI : ¬ ((n : Int) ≤ (k : Int)) := by omega
  have hkJ : ¬ ((k : Int) < 0) := by omega
  clear hn h hL hk hX hY hbd hkL
  go_enter Try.func38, Try.ntmps38
  go_wp2_with (first
    | (go_at_call 23; (with_reducible refine H1.mono ?_); clear H1; rintro e w1 ⟨rfl, K1⟩; have hA1 := hA.on K1; have a1 := hA1.cell 0; have la1 := hA1.lt; simp only [List.getElem?_cons_zero] at a1)
    | (go_at_call 42; (with_reducible refine (H2 _ K1).mono ?_); clear H2; rintro e w2 ⟨⟨a, b, rfl, h1, h2⟩, K2⟩; replace K1 := K1.trans (K2.mono K1.size); have s2 := K1.size; ((obtain ⟨V, hV⟩ : ∃ V, (w2.alloc (.cells #[.pointer a] 28)).alloc (.cells #[.pointer b] 28) = V := ⟨_, rfl⟩); have hbV : Below w2.heap.size w2 V := (by rw [← hV]; exact ((Below.refl _ _).alloc (Nat.le_refl _) _).alloc (by simp) _); have hx1 : hp.Blk V w2.heap.size 28 [.pointer a] := (by rw [← hV]; exact (hp.Blk.new w2 [.pointer a] _).alloc _); have hx2 : hp.Blk V (w2.heap.size + 1) 28 [.pointer b] := (by rw [← hV]; exact hp.Blk.newAt (by simp)); have p1 := hx1.cell 0; have p2 := hx2.cell 0; have lx1 := hx1.lt; have lx2 := hx2.lt; simp only [List.getElem?_cons_zero] at p1 p2; replace K1 := K1.trans (hbV.mono K1.size); replace h1 := h1.on hbV; replace h2 := h2.on hbV))
    | (go_at_call 58; (with_reducible refine (H3 _ _ h2).mono ?_); clear H3; rintro e w3 ⟨⟨q, rfl, hq⟩, K3⟩))
  obtain ⟨V3, hV3⟩ : ∃ V3, w3.alloc (.cells #[.pointer q] 28) = V3 := ⟨_, rfl⟩
  have hb3 : Below V.heap.size V V3 := by rw [← hV3]; exact K3.alloc K3.size _
  have hx3 : hp.Blk V3 w3.heap.size 28 [.pointer q] := by rw [← hV3]; exact hp.Blk.new w3 [.pointer q] _
  replace K1 := K1.trans (hb3.mono K1.size)
  have hx1' := hx1.on hb3
  have hr1 := hR1.on K1
  have hr2 := hR2.on K1
  have hq' := hq.on (show Below w3.heap.size w3 V3 by rw [← hV3]; exact (Below.refl _ _).alloc (Nat.le_refl _) _)
  have h1' := h1.on hb3
  have hbV3 := hb.trans (K1.mono hb.size)
  have hne1 : ¬ w2.heap.size = w.heap.size + 1 + 1 := by have := hR2.lt; omega
  have hne3 : ¬ w3.heap.size = w.heap.size + 1 := by have := hR1.lt; have := hx1.lt; have := K3.size; omega
  rw [hV3]
  clear s2 hV3 hV hW h1 h2 hq hA hR1 hR2 K2 K3 K1 hA1 a1 la1 a0 la p1 p2 lx1 lx2 hx1 hx2 hbV hb3 hb
  generalize w2.heap.size = b2 at *
  generalize w3.heap.size = b3 at *
  have c1 := hr1.cell 0
  have c2 := hr2.cell 0
  have d1 := hx1'.cell 0
  have d2 := hx3.cell 0
  have f1 := hr1.free
  have f2 := hr2.free
  have l1 := hr1.lt
  have l2 := hr2.lt
  have l3 := hx1'.lt
  have l4 := hx3.lt
  have z1 := (hx1'.other (a := ⟨w.heap.size + 1 + 1, 0, none⟩) hne1 (.pointer q)).drew.cell 0
  have z2 := (hx3.other (a := ⟨w.heap.size + 1, 0, none⟩) hne3 (.pointer a)).drew.cell 0
  have y1 := ((hr1.set 0 (.pointer a)).other (a := ⟨w.heap.size + 1 + 1, 0, none⟩) (by simp) (.pointer q)).cell 0
  have y2 := ((hr2.other (a := ⟨w.heap.size + 1, 0, none⟩) (by simp) (.pointer a)).set 0 (.pointer q)).cell 0
  simp only [List.getElem?_cons_zero, List.set_cons_zero] at c1 c2 d1 d2 y1 y2 z1 z2
  clear hx1' hx3 hne1 hne3
  go_big_region
  go_wp2_with fail
  exact bodyPost_ret (v := .tuple #[.agg #[.pointer a], .int .i64 x, .agg #[.pointer q], .bool true]) (by simp [results, Try.results38, go_sem, y1, y2]) rfl ⟨⟨a, q, rfl, (((h1'.keep (keep_tree hr1 _ _)).keep (keep_tree (hr2.other (by simp) _) _ _)).keep (keep_drew _)), (((hq'.keep (keep_tree hr1 _ _)).keep (keep_tree (hr2.other (by simp) _) _ _)).keep (keep_drew _))⟩, ((hbV3.setCell (p := ⟨w.heap.size + 1, 0, none⟩) (by simp) _).setCell (p := ⟨w.heap.size + 1 + 1, 0, none⟩) (by simp; omega) _).drew⟩

set_option maxRecDepth 100000 in
set_option maxHeartbeats 4000000 in
theorem between_any {u v : Value} {X Y L : List Int} {x : Int} {w : World} (h : IsT w u X) (h' : IsT w v Y) (hx : (Lit.int .i64 x).wf = true) (hL : X ++ x :: Y = L) (hbd : L.length ≤ 4611686018427387904) :
    Calls Try.prog 39 #[u, .int .i64 x, v] w fun e w' => (∃ q, e = .returned (.agg #[.pointer q]) ∧ IsT w' (.agg #[.pointer q]) L) ∧ Below w.heap.size w w' := by
  obtain ⟨p, rfl, h⟩ := h
  obtain ⟨q, rfl, h'⟩ := h'
  obtain ⟨W, hW⟩ : ∃ W, ((w.alloc (.cells #[.pointer p] 28)).alloc (.cells #[.pointer q] 28)).alloc (.cells #[.pointer none] 30) = W := ⟨_, rfl⟩
  have hA : hp.Blk W w.heap.size 28 [.pointer p] := by rw [← hW]; exact ((hp.Blk.new w [.pointer p] _).alloc _).alloc _
  have hB : hp.Blk W (w.heap.size + 1) 28 [.pointer q] := by rw [← hW]; exact (hp.Blk.newAt (by simp)).alloc _
  have hR : hp.Blk W (w.heap.size + 1 + 1) 30 [.pointer none] := by rw [← hW]; exact hp.Blk.newAt (by simp)
  have hb : Below w.heap.size w W := by rw [← hW]; ((repeat' (first | with_reducible exact Below.refl _ _ | with_reducible apply Below.setCell | with_reducible apply below_drewN | with_reducible apply Below.drew | with_reducible apply Below.alloc | with_reducible refine Below.trans ?_ (Below.mono (by assumption) ?_))) <;> (first | (simp; done) | (simp; omega) | omega))
  have e1 : (X ++ [x]) ++ Y = L := by rw [← hL]; simp
  have n1 : (X ++ [x]).length ≤ L.length := by have := congrArg List.length e1; rw [List.length_append] at this; omega
  have H1 := fun V (K : Below W.heap.size W V) => pushRight x (X ++ [x]) ((IsT.mk (h.on hb)).on K) hx rfl (by omega)
  have H2 := fun V u (K : Below W.heap.size W V) (hu : IsT V u (X ++ [x])) => join_tree L hu ((IsT.mk (h'.on hb)).on K) e1 hbd
  clear h h' hL hbd hx n1 e1
  generalize X ++ [x] = X1 at *
  go_enter Try.func39, Try.ntmps39
  go_wp2_with fail
  clear hW
  apply rel.region_tail (C := fun w' => Below W.heap.size W w') (X := fun w w' => Below w.heap.size w w') 5 (by kernel_rfl) (by kernel_rfl) (by kernel_rfl) (by kernel_rfl) ((Below.refl _ _).drew)
  ((apply rel.walk_val; (focus (intro wq hq hf; (have d0 := (((hA).below hq (hA).lt)).cell 0; simp only [List.getElem?_cons_zero] at d0); go_wp2; refine ⟨hq, Below.refl _ _, ?_, rfl⟩; (show rel.slot _ _ = _; simp only [rel.slot_lit, List.getD_cons_succ, List.getD_cons_zero]; (first | done | exact rfl)))); (simp only [rel.put_lit, List.set_cons_succ, List.set_cons_zero])))
  (apply rel.walk_val; (focus (intro wq hq hf; go_wp2; refine ⟨hq, Below.refl _ _, ?_, rfl⟩; (show rel.slot _ _ = _; simp only [rel.slot_lit, List.getD_cons_succ, List.getD_cons_zero]; (first | done | exact rfl)))); (simp only [rel.put_lit, List.set_cons_succ, List.set_cons_zero]))
  (apply rel.walk_rel (fun u w' => fin.IsT w' u (X1)) ⟨_, rfl⟩ (fun u w1 w2 h1 h2 => h2.on h1); (focus (intro wq hq hf; go_wp2_with (go_at_call 57; with_reducible refine (H1 _ hq).mono ?_; rintro e w'' ⟨⟨u, rfl, hu⟩, hb⟩); refine ⟨hq.trans (hb.mono hq.size), hb, ?_, rfl⟩; (show fin.IsT _ (rel.slot _ _) _; simp only [rel.slot_lit, List.getD_cons_succ, List.getD_cons_zero]; exact hu))); (intro u wu _ hu; obtain ⟨p1, rfl⟩ := fin.IsT.val hu; (simp only [rel.put_lit, List.set_cons_succ, List.set_cons_zero])))
  ((apply rel.walk_val; (focus (intro wq hq hf; (have d0 := (((hB).below hq (hB).lt)).cell 0; simp only [List.getElem?_cons_zero] at d0); go_wp2; refine ⟨hq, Below.refl _ _, ?_, rfl⟩; (show rel.slot _ _ = _; simp only [rel.slot_lit, List.getD_cons_succ, List.getD_cons_zero]; (first | done | exact rfl)))); (simp only [rel.put_lit, List.set_cons_succ, List.set_cons_zero])))
  (apply rel.walk_rel (fun u w' => fin.IsT w' u (L)) ⟨_, rfl⟩ (fun u w1 w2 h1 h2 => h2.on h1); (focus (intro wq hq hf; go_wp2_with (go_at_call 40; with_reducible refine (H2 _ _ hq (hf.get 0 rfl rfl)).mono ?_; rintro e w'' ⟨⟨u, rfl, hu⟩, hb⟩); refine ⟨hq.trans (hb.mono hq.size), hb, ?_, rfl⟩; (show fin.IsT _ (rel.slot _ _) _; simp only [rel.slot_lit, List.getD_cons_succ, List.getD_cons_zero]; exact hu))); (intro u wu _ hu; obtain ⟨p2, rfl⟩ := fin.IsT.val hu; (simp only [rel.put_lit, List.set_cons_succ, List.set_cons_zero])))
  (refine rel.walk_nil ?_; intro w9 K9 hF; have hu9 := hF _ (List.mem_cons_self ..); clear hF)
  have hR9 := hR.on K9
  have d0 := hR9.cell 0
  have df := hR9.free
  have f0 := (hR9.set 0 (.pointer p2)).cell 0
  simp only [List.getElem?_cons_zero, List.set_cons_zero] at d0 f0
  simp only [List.drop_succ_cons, List.drop_zero]
  go_wp2_with fail
  exact bodyPost_ret (v := .agg #[.pointer p2]) (by simp [results, Try.results39, go_sem, f0]) rfl ⟨⟨_, rfl, hu9.keep (keep_seq hR9 _ _)⟩, (hb.trans (K9.mono hb.size)).setCell (p := ⟨w.heap.size + 1 + 1, 0, none⟩) (by show _ ≤ w.heap.size + 1 + 1; omega) _⟩
end Go.Proofs.Ytkenocamlaaajaa.fin
