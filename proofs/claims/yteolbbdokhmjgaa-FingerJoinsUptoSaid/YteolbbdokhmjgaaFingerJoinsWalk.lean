/- The walk of FingerJoins. -/
import Derived.Test.YteolbbdokhmjgaaFinWalks
namespace Go.Proofs.Yteolbbdokhmjgaa.fingerJoins
open Go Go.RowKit Go.Proofs.Yteolbbdokhmjgaa.fin Go.Proofs.Yteolbbdokhmjgaa.mono
set_option linter.unusedVariables false

set_option maxRecDepth 100000 in
set_option maxHeartbeats 16000000 in
theorem walk (v0 : Value) (l0 : List Int) (v1 : Value) (l1 : List Int) (v2 : Value) (l2 : List Int) (w : World) (i0 : hp.IsInts w w.heap.size v0 l0) (i1 : hp.IsInts w w.heap.size v1 l1) (i2 : hp.IsInts w w.heap.size v2 l2) (bd : l0.length + l1.length + l2.length ≤ 1048576) :
    Calls Try.prog 5 #[v0, v1, v2] w fun e w' => e = .returned (.bool true) ∧ Below w.heap.size w w' := by
  have O0 := fun W (K : Below w.heap.size w W) => of_any v0 l0 W (i0.on K) (by omega)
  have O1 := fun W (K : Below w.heap.size w W) => of_any v1 l1 W (i1.on K) (by omega)
  have O2 := fun W (K : Below w.heap.size w W) => of_any v2 l2 W (i2.on K) (by omega)
  obtain ⟨L01, h01⟩ : ∃ L, l0 ++ l1 = L := ⟨_, rfl⟩
  obtain ⟨L12, h12⟩ : ∃ L, l1 ++ l2 = L := ⟨_, rfl⟩
  obtain ⟨LL, hLL⟩ : ∃ L, L01 ++ l2 = L := ⟨_, rfl⟩
  have hLL2 : l0 ++ L12 = LL := by rw [← hLL, ← h01, ← h12, List.append_assoc]
  have n01 : L01.length = l0.length + l1.length := by rw [← h01, List.length_append]
  have n12 : L12.length = l1.length + l2.length := by rw [← h12, List.length_append]
  have nLL : LL.length = L01.length + l2.length := by rw [← hLL, List.length_append]
  have C01 := fun W (K : Below w.heap.size w W) => same.cat_eq h01 (i0.on K) (i1.on K) (by omega)
  have C2 := fun W u (K : Below w.heap.size w W) (h : hp.IsInts W W.heap.size u L01) => same.cat_eq hLL h (i2.on K) (by omega)
  have J01 := fun W u v (hu : IsT W u l0) (hv : IsT W v l1) => join_tree L01 hu hv h01 (by omega)
  have J12 := fun W u v (hu : IsT W u l1) (hv : IsT W v l2) => join_tree L12 hu hv h12 (by omega)
  have J1 := fun W u v (hu : IsT W u L01) (hv : IsT W v l2) => join_tree LL hu hv hLL (by omega)
  have J2 := fun W u v (hu : IsT W u l0) (hv : IsT W v L12) => join_tree LL hu hv hLL2 (by omega)
  have M01 := fun W => join_to l0 l1 L01 W h01 (by omega)
  have I1 := fun W u (h : IsT W u LL) => ints_any u LL W h (by omega)
  obtain ⟨z0, c0, rfl, -⟩ := i0
  obtain ⟨z1, c1, rfl, -⟩ := i1
  obtain ⟨z2, c2, rfl, -⟩ := i2
  have K := Below.refl w.heap.size w
  clear h01 h12 hLL hLL2 n01 n12 nLL
  go_enter Try.func5, Try.ntmps5
  go_wp2_with (first
    | (go_at_call 9; (with_reducible refine (fingered_any _).mono ?_); rintro e wa ⟨rfl, hb⟩; (replace K := K.trans ((hb).mono K.size); clear hb))
    | (go_at_call 19; (with_reducible refine (O0 _ K).mono ?_); clear O0; rintro e wb ⟨⟨u, rfl, hA⟩, hb⟩; (obtain ⟨pa, rfl⟩ := hA.val); (replace K := K.trans ((hb).mono K.size); clear hb); replace hA := hA.on ((Below.refl _ _).alloc (Nat.le_refl _) (.cells #[.pointer pa] 28)); have BA := hp.Blk.new wb [.pointer pa] 28; replace K := K.alloc K.size (.cells #[.pointer pa] 28))
    | (go_at_call 19; (with_reducible refine (O1 _ K).mono ?_); clear O1; rintro e wc ⟨⟨u, rfl, hB⟩, hb⟩; (obtain ⟨pb, rfl⟩ := hB.val); replace hA := (hA.on hb).on ((Below.refl _ _).alloc (Nat.le_refl _) (.cells #[.pointer pb] 28)); replace BA := (BA.on hb).alloc (.cells #[.pointer pb] 28); replace hB := hB.on ((Below.refl _ _).alloc (Nat.le_refl _) (.cells #[.pointer pb] 28)); have BB := hp.Blk.new wc [.pointer pb] 28; (replace K := K.trans ((hb).mono K.size); clear hb); replace K := K.alloc K.size (.cells #[.pointer pb] 28))
    | (go_at_call 19; (with_reducible refine (O2 _ K).mono ?_); clear O2; rintro e wd ⟨⟨u, rfl, hC⟩, hb⟩; (obtain ⟨pc, rfl⟩ := hC.val); replace hA := (hA.on hb).on ((Below.refl _ _).alloc (Nat.le_refl _) (.cells #[.pointer pc] 28)); replace BA := (BA.on hb).alloc (.cells #[.pointer pc] 28); replace hB := (hB.on hb).on ((Below.refl _ _).alloc (Nat.le_refl _) (.cells #[.pointer pc] 28)); replace BB := (BB.on hb).alloc (.cells #[.pointer pc] 28); replace hC := hC.on ((Below.refl _ _).alloc (Nat.le_refl _) (.cells #[.pointer pc] 28)); have BC := hp.Blk.new wd [.pointer pc] 28; (replace K := K.trans ((hb).mono K.size); clear hb); replace K := K.alloc K.size (.cells #[.pointer pc] 28)))
  generalize wb.heap.size = ga at *
  generalize wc.heap.size = gb at *
  generalize wd.heap.size = gc at *
  generalize wd.alloc (.cells #[.pointer pc] 28) = W at *
  have la := BA.lt
  have lb := BB.lt
  have lc := BC.lt
  apply rel.region_tail (C := fun w' => Below W.heap.size W w') (X := fun w w' => Below w.heap.size w w') 6 (by kernel_rfl) (by kernel_rfl) (by kernel_rfl) (by kernel_rfl) ((Below.refl _ _).drew)
  ((apply rel.walk_val; (focus (intro wq hq hf; (have d0 := (((BA).below hq (BA).lt)).cell 0; simp only [List.getElem?_cons_zero] at d0); go_wp2; refine ⟨hq, Below.refl _ _, ?_, rfl⟩; (show rel.slot _ _ = _; simp only [rel.slot_lit, List.getD_cons_succ, List.getD_cons_zero]; (first | done | exact rfl)))); (simp only [rel.put_lit, List.set_cons_succ, List.set_cons_zero])))
  ((apply rel.walk_val; (focus (intro wq hq hf; (have d0 := (((BB).below hq (BB).lt)).cell 0; simp only [List.getElem?_cons_zero] at d0); go_wp2; refine ⟨hq, Below.refl _ _, ?_, rfl⟩; (show rel.slot _ _ = _; simp only [rel.slot_lit, List.getD_cons_succ, List.getD_cons_zero]; (first | done | exact rfl)))); (simp only [rel.put_lit, List.set_cons_succ, List.set_cons_zero])))
  (apply rel.walk_rel (fun u w' => fin.IsT w' u (L01)) ⟨_, rfl⟩ (fun u w1 w2 h1 h2 => h2.on h1); (focus (intro wq hq hf; go_wp2_with (go_at_call 20; with_reducible refine (J01 _ _ _ (hA.on hq) (hB.on hq)).mono ?_; rintro e w'' ⟨⟨u, rfl, hu⟩, hb⟩); refine ⟨hq.trans (hb.mono hq.size), hb, ?_, rfl⟩; (show fin.IsT _ (rel.slot _ _) _; simp only [rel.slot_lit, List.getD_cons_succ, List.getD_cons_zero]; exact hu))); (intro u wu _ hu; obtain ⟨p1, rfl⟩ := fin.IsT.val hu; (simp only [rel.put_lit, List.set_cons_succ, List.set_cons_zero])))
  ((apply rel.walk_val; (focus (intro wq hq hf; (have d0 := (((BC).below hq (BC).lt)).cell 0; simp only [List.getElem?_cons_zero] at d0); go_wp2; refine ⟨hq, Below.refl _ _, ?_, rfl⟩; (show rel.slot _ _ = _; simp only [rel.slot_lit, List.getD_cons_succ, List.getD_cons_zero]; (first | done | exact rfl)))); (simp only [rel.put_lit, List.set_cons_succ, List.set_cons_zero])))
  (apply rel.walk_rel (fun u w' => fin.IsT w' u (LL)) ⟨_, rfl⟩ (fun u w1 w2 h1 h2 => h2.on h1); (focus (intro wq hq hf; go_wp2_with (go_at_call 20; with_reducible refine (J1 _ _ _ (hf.get 0 rfl rfl) (hC.on hq)).mono ?_; rintro e w'' ⟨⟨u, rfl, hu⟩, hb⟩); refine ⟨hq.trans (hb.mono hq.size), hb, ?_, rfl⟩; (show fin.IsT _ (rel.slot _ _) _; simp only [rel.slot_lit, List.getD_cons_succ, List.getD_cons_zero]; exact hu))); (intro u wu _ hu; obtain ⟨p2, rfl⟩ := fin.IsT.val hu; (simp only [rel.put_lit, List.set_cons_succ, List.set_cons_zero])))
  (apply rel.walk_rel (fun u w' => ∃ γ, u = .pointer (some ⟨γ, 0, none⟩) ∧ W.heap.size ≤ γ ∧ hp.Blk w' γ 28 [.pointer none]) ⟨_, rfl⟩ (fun u w1 w2 h1 h2 => by obtain ⟨γ, he, hl, hk⟩ := h2; exact ⟨γ, he, hl, hk.on h1⟩); (focus (intro wq hq hf; go_wp2; refine ⟨hq.alloc hq.size _, (Below.refl _ _).alloc (Nat.le_refl _) _, ?_, rfl⟩; (show ∃ γ, rel.slot _ _ = _ ∧ _; simp only [rel.slot_lit, List.getD_cons_succ, List.getD_cons_zero]; exact ⟨_, rfl, hq.size, hp.Blk.new _ _ _⟩))); (intro u wu _ hu; obtain ⟨gd, rfl, -⟩ := hu; (simp only [rel.put_lit, List.set_cons_succ, List.set_cons_zero])))
  refine rel.walk_nil ?_
  intro w9 K9 hF
  obtain ⟨gd', ed, hgd, BD0⟩ := hF _ (List.mem_cons_self ..)
  cases ed
  have hD0 := hF _ (List.mem_cons_of_mem _ (List.mem_cons_self ..))
  clear hF
  have d0 := BD0.cell 0
  have df := BD0.free
  simp only [List.getElem?_cons_zero] at d0
  obtain ⟨V, hV⟩ : ∃ V, w9.setCell ⟨gd, 0, none⟩ (.pointer p2) = V := ⟨_, rfl⟩
  have BD : hp.Blk V gd 28 [.pointer p2] := by rw [← hV]; exact BD0.set 0 _
  have hD : IsT V (.agg #[.pointer p2]) LL := by rw [← hV]; exact hD0.keep (keep_tree BD0 _ _)
  have hA2 : IsT V (.agg #[.pointer pa]) l0 := by rw [← hV]; exact (hA.on K9).keep (keep_tree BD0 _ _)
  have hB2 : IsT V (.agg #[.pointer pb]) l1 := by rw [← hV]; exact (hB.on K9).keep (keep_tree BD0 _ _)
  have hC2 : IsT V (.agg #[.pointer pc]) l2 := by rw [← hV]; exact (hC.on K9).keep (keep_tree BD0 _ _)
  have BA2 : hp.Blk V ga 28 [.pointer pa] := by rw [← hV]; exact (BA.on K9).other (by simp; omega) _
  have BB2 : hp.Blk V gb 28 [.pointer pb] := by rw [← hV]; exact (BB.on K9).other (by simp; omega) _
  have BC2 : hp.Blk V gc 28 [.pointer pc] := by rw [← hV]; exact (BC.on K9).other (by simp; omega) _
  have K2 : Below w.heap.size w V := by rw [← hV]; exact (K.trans (K9.mono K.size)).setCell (p := ⟨gd, 0, none⟩) (by have := K.size; simp; omega) _
  clear hA hB hC BA BB BC BD0 hD0 K9 K la lb lc
  have la := BA2.lt
  have lb := BB2.lt
  have lc := BC2.lt
  have ld := BD.lt
  simp only [List.drop_succ_cons, List.drop_zero]
  go_wp2_with fail
  clear hV d0 df
  apply rel.region_tail (C := fun w' => Below V.heap.size V w') (X := fun w w' => Below w.heap.size w w') 6 (by kernel_rfl) (by kernel_rfl) (by kernel_rfl) (by kernel_rfl) ((Below.refl _ _).drew)
  ((apply rel.walk_val; (focus (intro wq hq hf; (have d0 := (((BA2).below hq (BA2).lt)).cell 0; simp only [List.getElem?_cons_zero] at d0); go_wp2; refine ⟨hq, Below.refl _ _, ?_, rfl⟩; (show rel.slot _ _ = _; simp only [rel.slot_lit, List.getD_cons_succ, List.getD_cons_zero]; (first | done | exact rfl)))); (simp only [rel.put_lit, List.set_cons_succ, List.set_cons_zero])))
  ((apply rel.walk_val; (focus (intro wq hq hf; (have d0 := (((BB2).below hq (BB2).lt)).cell 0; simp only [List.getElem?_cons_zero] at d0); go_wp2; refine ⟨hq, Below.refl _ _, ?_, rfl⟩; (show rel.slot _ _ = _; simp only [rel.slot_lit, List.getD_cons_succ, List.getD_cons_zero]; (first | done | exact rfl)))); (simp only [rel.put_lit, List.set_cons_succ, List.set_cons_zero])))
  ((apply rel.walk_val; (focus (intro wq hq hf; (have d0 := (((BC2).below hq (BC2).lt)).cell 0; simp only [List.getElem?_cons_zero] at d0); go_wp2; refine ⟨hq, Below.refl _ _, ?_, rfl⟩; (show rel.slot _ _ = _; simp only [rel.slot_lit, List.getD_cons_succ, List.getD_cons_zero]; (first | done | exact rfl)))); (simp only [rel.put_lit, List.set_cons_succ, List.set_cons_zero])))
  (apply rel.walk_rel (fun u w' => fin.IsT w' u (L12)) ⟨_, rfl⟩ (fun u w1 w2 h1 h2 => h2.on h1); (focus (intro wq hq hf; go_wp2_with (go_at_call 20; with_reducible refine (J12 _ _ _ (hB2.on hq) (hC2.on hq)).mono ?_; rintro e w'' ⟨⟨u, rfl, hu⟩, hb⟩); refine ⟨hq.trans (hb.mono hq.size), hb, ?_, rfl⟩; (show fin.IsT _ (rel.slot _ _) _; simp only [rel.slot_lit, List.getD_cons_succ, List.getD_cons_zero]; exact hu))); (intro u wu _ hu; obtain ⟨p3, rfl⟩ := fin.IsT.val hu; (simp only [rel.put_lit, List.set_cons_succ, List.set_cons_zero])))
  (apply rel.walk_rel (fun u w' => fin.IsT w' u (LL)) ⟨_, rfl⟩ (fun u w1 w2 h1 h2 => h2.on h1); (focus (intro wq hq hf; go_wp2_with (go_at_call 20; with_reducible refine (J2 _ _ _ (hA2.on hq) (hf.get 0 rfl rfl)).mono ?_; rintro e w'' ⟨⟨u, rfl, hu⟩, hb⟩); refine ⟨hq.trans (hb.mono hq.size), hb, ?_, rfl⟩; (show fin.IsT _ (rel.slot _ _) _; simp only [rel.slot_lit, List.getD_cons_succ, List.getD_cons_zero]; exact hu))); (intro u wu _ hu; obtain ⟨p4, rfl⟩ := fin.IsT.val hu; (simp only [rel.put_lit, List.set_cons_succ, List.set_cons_zero])))
  (apply rel.walk_rel (fun u w' => ∃ γ, u = .pointer (some ⟨γ, 0, none⟩) ∧ V.heap.size ≤ γ ∧ hp.Blk w' γ 28 [.pointer none]) ⟨_, rfl⟩ (fun u w1 w2 h1 h2 => by obtain ⟨γ, he, hl, hk⟩ := h2; exact ⟨γ, he, hl, hk.on h1⟩); (focus (intro wq hq hf; go_wp2; refine ⟨hq.alloc hq.size _, (Below.refl _ _).alloc (Nat.le_refl _) _, ?_, rfl⟩; (show ∃ γ, rel.slot _ _ = _ ∧ _; simp only [rel.slot_lit, List.getD_cons_succ, List.getD_cons_zero]; exact ⟨_, rfl, hq.size, hp.Blk.new _ _ _⟩))); (intro u wu _ hu; obtain ⟨ge, rfl, -⟩ := hu; (simp only [rel.put_lit, List.set_cons_succ, List.set_cons_zero])))
  refine rel.walk_nil ?_
  intro w9 K9 hF
  obtain ⟨ge', ed, hge, BE0⟩ := hF _ (List.mem_cons_self ..)
  cases ed
  have hE0 := hF _ (List.mem_cons_of_mem _ (List.mem_cons_self ..))
  clear hF
  have d0 := BE0.cell 0
  have df := BE0.free
  simp only [List.getElem?_cons_zero] at d0
  obtain ⟨X, hX⟩ : ∃ V, w9.setCell ⟨ge, 0, none⟩ (.pointer p4) = V := ⟨_, rfl⟩
  have BE : hp.Blk X ge 28 [.pointer p4] := by rw [← hX]; exact BE0.set 0 _
  have hE : IsT X (.agg #[.pointer p4]) LL := by rw [← hX]; exact hE0.keep (keep_tree BE0 _ _)
  have hA : IsT X (.agg #[.pointer pa]) l0 := by rw [← hX]; exact (hA2.on K9).keep (keep_tree BE0 _ _)
  have hB : IsT X (.agg #[.pointer pb]) l1 := by rw [← hX]; exact (hB2.on K9).keep (keep_tree BE0 _ _)
  have hD3 : IsT X (.agg #[.pointer p2]) LL := by rw [← hX]; exact (hD.on K9).keep (keep_tree BE0 _ _)
  have BA : hp.Blk X ga 28 [.pointer pa] := by rw [← hX]; exact (BA2.on K9).other (by simp; omega) _
  have BB : hp.Blk X gb 28 [.pointer pb] := by rw [← hX]; exact (BB2.on K9).other (by simp; omega) _
  have BD3 : hp.Blk X gd 28 [.pointer p2] := by rw [← hX]; exact (BD.on K9).other (by simp; omega) _
  have K : Below w.heap.size w X := by rw [← hX]; exact (K2.trans (K9.mono K2.size)).setCell (p := ⟨ge, 0, none⟩) (by have := K2.size; simp; omega) _
  clear hA2 hB2 hC2 BA2 BB2 BC2 BE0 hE0 K9 K2 la lb lc ld BD hD J1 J2 J12
  have r0 := BD3.cell 0
  have ld := BD3.lt
  simp only [List.getElem?_cons_zero] at r0
  simp only [List.drop_succ_cons, List.drop_zero]
  have P1 := I1 _ _ hD3
  go_wp2_with (first
    | (go_at_call 16; (with_reducible refine P1.mono ?_); clear P1 hX; rintro e wx ⟨⟨u, rfl, hi⟩, hb⟩; have Kx := hb)
    | (go_at_call 12; (with_reducible refine (C01 _ (K.trans (Kx.mono K.size))).mono ?_); clear C01; rintro e wy ⟨⟨u2, rfl, hj⟩, hb⟩; replace Kx := Kx.trans (hb.mono Kx.size); replace hi := hi.on hb)
    | (go_at_call 12; (with_reducible refine (C2 _ _ (K.trans (Kx.mono K.size)) hj).mono ?_); clear C2; rintro e wz ⟨⟨u3, rfl, hk⟩, hb⟩; replace Kx := Kx.trans (hb.mono Kx.size); replace hi := hi.on hb)
    | (go_at_call 15; (with_reducible refine (same.ints_eq rfl hi hk).mono ?_); clear hi hk; rintro e ws ⟨rfl, hb⟩; replace Kx := Kx.trans (hb.mono Kx.size)))
  replace hA := hA.on Kx
  replace hB := hB.on Kx
  replace hD3 := hD3.on Kx
  replace hE := hE.on Kx
  replace BA := BA.on Kx
  replace BB := BB.on Kx
  replace BD3 := BD3.on Kx
  replace BE := BE.on Kx
  replace K := K.trans (Kx.mono K.size)
  have la := BA.lt
  have lb := BB.lt
  have ld := BD3.lt
  have le := BE.lt
  clear Kx r0 hj
  apply rel.region (C := fun w' => Below ws.heap.size ws w') (X := fun w w' => Below w.heap.size w w') (by kernel_rfl) (by kernel_rfl) (by kernel_rfl) ((Below.refl _ _).drew)
  ((apply rel.walk_val; (focus (intro wq hq hf; (have d0 := (((BE).below hq (BE).lt)).cell 0; simp only [List.getElem?_cons_zero] at d0); go_wp2; refine ⟨hq, Below.refl _ _, ?_, rfl⟩; (show rel.slot _ _ = _; simp only [rel.slot_lit, List.getD_cons_succ, List.getD_cons_zero]; (first | done | exact rfl)))); (simp only [rel.put_lit, List.set_cons_succ, List.set_cons_zero])))
  (apply rel.walk_rel (fun u w' => hp.IsInts w' w'.heap.size u (LL)) ⟨_, rfl⟩ (fun u w1 w2 h1 h2 => h2.on h1); (focus (intro wq hq hf; go_wp2_with (go_at_call 16; refine (I1 _ _ (hE.on hq)).mono ?_; rintro e w'' ⟨⟨u, rfl, hu⟩, hb⟩); refine ⟨hq.trans (hb.mono hq.size), hb, ?_, rfl⟩; (show hp.IsInts _ _ (rel.slot _ _) _; simp only [rel.slot_lit, List.getD_cons_succ, List.getD_cons_zero]; exact hu))); (intro u wu _ hu; obtain ⟨pu, cu, rfl, -⟩ := hu; (simp only [rel.put_lit, List.set_cons_succ, List.set_cons_zero])))
  ((apply rel.walk_val; (focus (intro wq hq hf; (have d0 := (((BD3).below hq (BD3).lt)).cell 0; simp only [List.getElem?_cons_zero] at d0); go_wp2; refine ⟨hq, Below.refl _ _, ?_, rfl⟩; (show rel.slot _ _ = _; simp only [rel.slot_lit, List.getD_cons_succ, List.getD_cons_zero]; (first | done | exact rfl)))); (simp only [rel.put_lit, List.set_cons_succ, List.set_cons_zero])))
  (apply rel.walk_rel (fun u w' => hp.IsInts w' w'.heap.size u (LL)) ⟨_, rfl⟩ (fun u w1 w2 h1 h2 => h2.on h1); (focus (intro wq hq hf; go_wp2_with (go_at_call 16; refine (I1 _ _ (hD3.on hq)).mono ?_; rintro e w'' ⟨⟨u, rfl, hu⟩, hb⟩); refine ⟨hq.trans (hb.mono hq.size), hb, ?_, rfl⟩; (show hp.IsInts _ _ (rel.slot _ _) _; simp only [rel.slot_lit, List.getD_cons_succ, List.getD_cons_zero]; exact hu))); (intro u wu _ hu; obtain ⟨pu_1, cu_1, rfl, -⟩ := hu; (simp only [rel.put_lit, List.set_cons_succ, List.set_cons_zero])))
  (apply rel.walk_val; (focus (intro wq hq hf; go_wp2_with (go_at_call 15; refine (same.ints_eq rfl (hf.get 1 rfl rfl) (hf.get 0 rfl rfl)).mono ?_; rintro e w'' ⟨rfl, hb⟩); refine ⟨hq.trans (hb.mono hq.size), hb, ?_, rfl⟩; (show rel.slot _ _ = _; simp only [rel.slot_lit, List.getD_cons_succ, List.getD_cons_zero]; (first | done | exact rfl)))); (simp only [rel.put_lit, List.set_cons_succ, List.set_cons_zero]))
  (apply rel.walk_val; (focus (intro wq hq hf; go_wp2; refine ⟨hq, Below.refl _ _, ?_, rfl⟩; (show rel.slot _ _ = _; simp only [rel.slot_lit, List.getD_cons_succ, List.getD_cons_zero]; (first | done | exact rfl)))); (simp only [rel.put_lit, List.set_cons_succ, List.set_cons_zero]))
  refine rel.walk_nil ?_
  intro w9 K9 hF
  clear hF
  replace hA := hA.on K9
  replace hB := hB.on K9
  replace hD3 := hD3.on K9
  replace hE := hE.on K9
  replace BA := BA.on K9
  replace BB := BB.on K9
  replace BD3 := BD3.on K9
  replace BE := BE.on K9
  replace K := K.trans (K9.mono K.size)
  clear K9
  have la := BA.lt
  have lb := BB.lt
  have ld := BD3.lt
  have le := BE.lt
  go_wp2_with fail
  apply rel.region (C := fun w' => Below w9.heap.size w9 w') (X := fun w w' => Below w.heap.size w w') (by kernel_rfl) (by kernel_rfl) (by kernel_rfl) ((Below.refl _ _).drew)
  (apply rel.walk_val; (focus (intro wq hq hf; go_wp2; refine ⟨hq, Below.refl _ _, ?_, rfl⟩; (show rel.slot _ _ = _; simp only [rel.slot_lit, List.getD_cons_succ, List.getD_cons_zero]; (first | done | exact rfl)))); (simp only [rel.put_lit, List.set_cons_succ, List.set_cons_zero]))
  (apply rel.walk_val; (focus (intro wq hq hf; go_wp2; refine ⟨hq, Below.refl _ _, ?_, rfl⟩; (show rel.slot _ _ = _; simp only [rel.slot_lit, List.getD_cons_succ, List.getD_cons_zero]; (first | done | exact rfl)))); (simp only [rel.put_lit, List.set_cons_succ, List.set_cons_zero]))
  (apply rel.walk_val; (focus (intro wq hq hf; go_wp2; refine ⟨hq, Below.refl _ _, ?_, rfl⟩; (show rel.slot _ _ = _; simp only [rel.slot_lit, List.getD_cons_succ, List.getD_cons_zero]; (first | done | exact rfl)))); (simp only [rel.put_lit, List.set_cons_succ, List.set_cons_zero]))
  (apply rel.walk_val; (focus (intro wq hq hf; go_wp2; refine ⟨hq, Below.refl _ _, ?_, rfl⟩; (show rel.slot _ _ = _; simp only [rel.slot_lit, List.getD_cons_succ, List.getD_cons_zero]; (first | done | exact rfl)))); (simp only [rel.put_lit, List.set_cons_succ, List.set_cons_zero]))
  (apply rel.walk_val; (focus (intro wq hq hf; go_wp2; refine ⟨hq, Below.refl _ _, ?_, rfl⟩; (show rel.slot _ _ = _; simp only [rel.slot_lit, List.getD_cons_succ, List.getD_cons_zero]; (first | done | exact rfl)))); (simp only [rel.put_lit, List.set_cons_succ, List.set_cons_zero]))
  ((apply rel.walk_val; (focus (intro wq hq hf; (have d0 := (((BA).below hq (BA).lt)).cell 0; simp only [List.getElem?_cons_zero] at d0); go_wp2; refine ⟨hq, Below.refl _ _, ?_, rfl⟩; (show rel.slot _ _ = _; simp only [rel.slot_lit, List.getD_cons_succ, List.getD_cons_zero]; (first | done | exact rfl)))); (simp only [rel.put_lit, List.set_cons_succ, List.set_cons_zero])))
  ((apply rel.walk_val; (focus (intro wq hq hf; (have d0 := (((BB).below hq (BB).lt)).cell 0; simp only [List.getElem?_cons_zero] at d0); go_wp2; refine ⟨hq, Below.refl _ _, ?_, rfl⟩; (show rel.slot _ _ = _; simp only [rel.slot_lit, List.getD_cons_succ, List.getD_cons_zero]; (first | done | exact rfl)))); (simp only [rel.put_lit, List.set_cons_succ, List.set_cons_zero])))
  (apply rel.walk_rel (fun u w' => fin.IsT w' u (L01)) ⟨_, rfl⟩ (fun u w1 w2 h1 h2 => h2.on h1); (focus (intro wq hq hf; go_wp2_with (go_at_call 20; with_reducible refine (J01 _ _ _ (hA.on hq) (hB.on hq)).mono ?_; rintro e w'' ⟨⟨u, rfl, hu⟩, hb⟩); refine ⟨hq.trans (hb.mono hq.size), hb, ?_, rfl⟩; (show fin.IsT _ (rel.slot _ _) _; simp only [rel.slot_lit, List.getD_cons_succ, List.getD_cons_zero]; exact hu))); (intro u wu _ hu; obtain ⟨p5, rfl⟩ := fin.IsT.val hu; (simp only [rel.put_lit, List.set_cons_succ, List.set_cons_zero])))
  (apply rel.walk_val; (focus (intro wq hq hf; go_wp2_with (go_at_call 17; refine (measure_any (hf.get 0 rfl rfl)).mono ?_; rintro e w'' ⟨rfl, hb⟩); refine ⟨hq.trans (hb.mono hq.size), hb, ?_, rfl⟩; (show rel.slot _ _ = _; simp only [rel.slot_lit, List.getD_cons_succ, List.getD_cons_zero]; (first | done | exact rfl)))); (simp only [rel.put_lit, List.set_cons_succ, List.set_cons_zero]))
  ((apply rel.walk_val; (focus (intro wq hq hf; (have d0 := (((BA).below hq (BA).lt)).cell 0; simp only [List.getElem?_cons_zero] at d0); go_wp2; refine ⟨hq, Below.refl _ _, ?_, rfl⟩; (show rel.slot _ _ = _; simp only [rel.slot_lit, List.getD_cons_succ, List.getD_cons_zero]; (first | done | exact rfl)))); (simp only [rel.put_lit, List.set_cons_succ, List.set_cons_zero])))
  (apply rel.walk_val; (focus (intro wq hq hf; go_wp2_with (go_at_call 17; refine (measure_any (hA.on hq)).mono ?_; rintro e w'' ⟨rfl, hb⟩); refine ⟨hq.trans (hb.mono hq.size), hb, ?_, rfl⟩; (show rel.slot _ _ = _; simp only [rel.slot_lit, List.getD_cons_succ, List.getD_cons_zero]; (first | done | exact rfl)))); (simp only [rel.put_lit, List.set_cons_succ, List.set_cons_zero]))
  ((apply rel.walk_val; (focus (intro wq hq hf; (have d0 := (((BB).below hq (BB).lt)).cell 0; simp only [List.getElem?_cons_zero] at d0); go_wp2; refine ⟨hq, Below.refl _ _, ?_, rfl⟩; (show rel.slot _ _ = _; simp only [rel.slot_lit, List.getD_cons_succ, List.getD_cons_zero]; (first | done | exact rfl)))); (simp only [rel.put_lit, List.set_cons_succ, List.set_cons_zero])))
  (apply rel.walk_val; (focus (intro wq hq hf; go_wp2_with (go_at_call 17; refine (measure_any (hB.on hq)).mono ?_; rintro e w'' ⟨rfl, hb⟩); refine ⟨hq.trans (hb.mono hq.size), hb, ?_, rfl⟩; (show rel.slot _ _ = _; simp only [rel.slot_lit, List.getD_cons_succ, List.getD_cons_zero]; (first | done | exact rfl)))); (simp only [rel.put_lit, List.set_cons_succ, List.set_cons_zero]))
  (apply rel.walk_val; (focus (intro wq hq hf; go_wp2_with (go_at_call 24; refine (M01 _).mono ?_; rintro e w'' ⟨rfl, hb⟩); refine ⟨hq.trans (hb.mono hq.size), hb, ?_, rfl⟩; (show rel.slot _ _ = _; simp only [rel.slot_lit, List.getD_cons_succ, List.getD_cons_zero]; (first | done | exact rfl)))); (simp only [rel.put_lit, List.set_cons_succ, List.set_cons_zero]))
  (apply rel.walk_val; (focus (intro wq hq hf; go_wp2; refine ⟨hq, Below.refl _ _, ?_, rfl⟩; (show rel.slot _ _ = _; simp only [rel.slot_lit, List.getD_cons_succ, List.getD_cons_zero]; (first | done | exact rfl)))); (simp only [rel.put_lit, List.set_cons_succ, List.set_cons_zero]))
  (apply rel.walk_val; (focus (intro wq hq hf; go_wp2; refine ⟨hq, Below.refl _ _, ?_, rfl⟩; (show rel.slot _ _ = _; simp only [rel.slot_lit, List.getD_cons_succ, List.getD_cons_zero]; (first | done | exact rfl)))); (simp only [rel.put_lit, List.set_cons_succ, List.set_cons_zero]))
  (apply rel.walk_val; (focus (intro wq hq hf; go_wp2; refine ⟨hq, Below.refl _ _, ?_, rfl⟩; (show rel.slot _ _ = _; simp only [rel.slot_lit, List.getD_cons_succ, List.getD_cons_zero]; (first | done | exact rfl)))); (simp only [rel.put_lit, List.set_cons_succ, List.set_cons_zero]))
  ((apply rel.walk_val; (focus (intro wq hq hf; (have d0 := (((BD3).below hq (BD3).lt)).cell 0; simp only [List.getElem?_cons_zero] at d0); go_wp2; refine ⟨hq, Below.refl _ _, ?_, rfl⟩; (show rel.slot _ _ = _; simp only [rel.slot_lit, List.getD_cons_succ, List.getD_cons_zero]; (first | done | exact rfl)))); (simp only [rel.put_lit, List.set_cons_succ, List.set_cons_zero])))
  (apply rel.walk_val; (focus (intro wq hq hf; go_wp2_with (go_at_call 17; refine (measure_any (hD3.on hq)).mono ?_; rintro e w'' ⟨rfl, hb⟩); refine ⟨hq.trans (hb.mono hq.size), hb, ?_, rfl⟩; (show rel.slot _ _ = _; simp only [rel.slot_lit, List.getD_cons_succ, List.getD_cons_zero]; (first | done | exact rfl)))); (simp only [rel.put_lit, List.set_cons_succ, List.set_cons_zero]))
  ((apply rel.walk_val; (focus (intro wq hq hf; (have d0 := (((BE).below hq (BE).lt)).cell 0; simp only [List.getElem?_cons_zero] at d0); go_wp2; refine ⟨hq, Below.refl _ _, ?_, rfl⟩; (show rel.slot _ _ = _; simp only [rel.slot_lit, List.getD_cons_succ, List.getD_cons_zero]; (first | done | exact rfl)))); (simp only [rel.put_lit, List.set_cons_succ, List.set_cons_zero])))
  (apply rel.walk_val; (focus (intro wq hq hf; go_wp2_with (go_at_call 17; refine (measure_any (hE.on hq)).mono ?_; rintro e w'' ⟨rfl, hb⟩); refine ⟨hq.trans (hb.mono hq.size), hb, ?_, rfl⟩; (show rel.slot _ _ = _; simp only [rel.slot_lit, List.getD_cons_succ, List.getD_cons_zero]; (first | done | exact rfl)))); (simp only [rel.put_lit, List.set_cons_succ, List.set_cons_zero]))
  (apply rel.walk_val; (focus (intro wq hq hf; go_wp2; refine ⟨hq, Below.refl _ _, ?_, rfl⟩; (show rel.slot _ _ = _; simp only [rel.slot_lit, List.getD_cons_succ, List.getD_cons_zero]; (first | done | exact rfl)))); (simp only [rel.put_lit, List.set_cons_succ, List.set_cons_zero]))
  (apply rel.walk_val; (focus (intro wq hq hf; go_wp2; refine ⟨hq, Below.refl _ _, ?_, rfl⟩; (show rel.slot _ _ = _; simp only [rel.slot_lit, List.getD_cons_succ, List.getD_cons_zero]; (first | done | exact rfl)))); (simp only [rel.put_lit, List.set_cons_succ, List.set_cons_zero]))
  (apply rel.walk_val; (focus (intro wq hq hf; go_wp2; refine ⟨hq, Below.refl _ _, ?_, rfl⟩; (show rel.slot _ _ = _; simp only [rel.slot_lit, List.getD_cons_succ, List.getD_cons_zero]; (first | done | exact rfl)))); (simp only [rel.put_lit, List.set_cons_succ, List.set_cons_zero]))
  refine rel.walk_nil ?_
  intro w10 K10 hF
  clear hF
  go_wp2
  go_ret
  exact ⟨rfl, K.trans (K10.mono K.size)⟩
end Go.Proofs.Yteolbbdokhmjgaa.fingerJoins
