/- Package list: what a function makes of each. -/
import Derived.Test.YtkhnfkejmhhcjaaLstKeep
namespace Go.Proofs.Ytkhnfkejmhhcjaa.lst
open Go Go.RowKit Go.Shelf
attribute [local go_sem] Oper.semAt_some

theorem blk_cells {W : World} {g : Nat} {t : TypeId} {v : Value} (h : hp.Blk W g t [v]) (j : Nat) (u : Value) (hj : [v][j]? = some u) : W.cell? ((⟨g, 0, none⟩ : Addr).add j) = some u := by
  have : (⟨g, 0, none⟩ : Addr).add j = ⟨g, j, none⟩ := by unfold Addr.add; split <;> simp_all
  rw [this, h.cell j, hj]

set_option maxHeartbeats 4000000 in
theorem each_any (v : Value) (l : List Int) (fv : Value) (F : Int → Int) (w : World) (hv : IsList w w.heap.size v l) (hf : Fn1 w fv fun x => .int .i64 (F x)) (hF : ∀ x, (Lit.int .i64 (F x)).wf = true) (hbd : l.length ≤ 35184372088832) :
    Calls Try.prog 26 #[v, fv] w fun e w' => (∃ u, e = .returned u ∧ IsList w' w'.heap.size u (l.map F)) ∧ Below w.heap.size w w' := by
  obtain ⟨q, rfl, hc, hw⟩ := hv
  obtain ⟨k, cap, rfl, eg, hcall⟩ := hf
  obtain ⟨i0, hi, hz0, hz1, hz2⟩ := info_parts infoInt
  (refine rng.calls_of_marks Try.func26 rfl ?_; simp only [Try.ntmps26, List.size_toArray, List.length_cons, List.length_nil, Nat.reduceAdd, Nat.reduceSub, Array.replicate_succ, Array.replicate_zero, List.push_toArray, List.append_toArray, List.nil_append, List.cons_append])
  have hb0 : Below w.heap.size w (((w.alloc (.cells #[.pointer q, .int .i64 l.length] 26)).alloc (.cells #[.func (.func k) #[] cap] 42)).alloc (.cells #[.pointer none, .int .i64 0] 26)) := by
    ((repeat' (first | with_reducible exact Below.refl _ _ | with_reducible apply Below.setCell | with_reducible apply below_drewN | with_reducible apply Below.drew | with_reducible apply Below.alloc | with_reducible refine Below.trans ?_ (Below.mono (by assumption) ?_))) <;> (first | (simp; done) | (simp; omega) | omega))
  have hA : hp.Blk (((w.alloc (.cells #[.pointer q, .int .i64 l.length] 26)).alloc (.cells #[.func (.func k) #[] cap] 42)).alloc (.cells #[.pointer none, .int .i64 0] 26)) w.heap.size 26 [.pointer q, .int .i64 l.length] := by
    (first | exact hp.Blk.newAt (by simp) | exact (hp.Blk.newAt (by simp)).alloc _ | exact ((hp.Blk.newAt (by simp)).alloc _).alloc _ | exact (((hp.Blk.newAt (by simp)).alloc _).alloc _).alloc _ | exact ((((hp.Blk.newAt (by simp)).alloc _).alloc _).alloc _).alloc _ | exact (((((hp.Blk.newAt (by simp)).alloc _).alloc _).alloc _).alloc _).alloc _)
  have hFn : hp.Blk (((w.alloc (.cells #[.pointer q, .int .i64 l.length] 26)).alloc (.cells #[.func (.func k) #[] cap] 42)).alloc (.cells #[.pointer none, .int .i64 0] 26)) (w.heap.size + 1) 42 [.func (.func k) #[] cap] := by
    (first | exact hp.Blk.newAt (by simp) | exact (hp.Blk.newAt (by simp)).alloc _ | exact ((hp.Blk.newAt (by simp)).alloc _).alloc _ | exact (((hp.Blk.newAt (by simp)).alloc _).alloc _).alloc _ | exact ((((hp.Blk.newAt (by simp)).alloc _).alloc _).alloc _).alloc _ | exact (((((hp.Blk.newAt (by simp)).alloc _).alloc _).alloc _).alloc _).alloc _)
  have hR : hp.Blk (((w.alloc (.cells #[.pointer q, .int .i64 l.length] 26)).alloc (.cells #[.func (.func k) #[] cap] 42)).alloc (.cells #[.pointer none, .int .i64 0] 26)) (w.heap.size + 1 + 1) 26 [.pointer none, .int .i64 0] := by
    (first | exact hp.Blk.newAt (by simp) | exact (hp.Blk.newAt (by simp)).alloc _ | exact ((hp.Blk.newAt (by simp)).alloc _).alloc _ | exact (((hp.Blk.newAt (by simp)).alloc _).alloc _).alloc _ | exact ((((hp.Blk.newAt (by simp)).alloc _).alloc _).alloc _).alloc _ | exact (((((hp.Blk.newAt (by simp)).alloc _).alloc _).alloc _).alloc _).alloc _)
  go_wp2_with (first | (at_make; refine wpList_make_own _ rfl _ _ 22 rfl w.heap.size 3 i0 (.int .i64 0) 1 Try.underlying22 hi hz0 hz1 .i64 .i64 _ l.length rfl rfl rfl (by rw [hz2]; omega) (by unfold maxLen; omega) (by simp; omega) ?_; intro w1 hown1 hgrow1; simp only [World.size_alloc] at hown1; have hb1 := (Below.refl _ _).grown hgrow1 (Nat.le_refl _) (fun k e => by cases e); have hA1 := hA.on hb1; obtain ⟨c0, c1⟩ := hA1.cells2; have hlt1 := hA1.lt; have hFn1 := hFn.on hb1; have hR1 := hR.on hb1) | (go_at_call 36; refine (all_any _ _ _).mono ?_; rintro e w2 ⟨rfl, rfl⟩))
  obtain ⟨sv, hsv⟩ : ∃ sv : Value, Value.slice (some ⟨w.heap.size + 1 + 1 + 1, 0, none⟩) 0 l.length = sv := ⟨_, rfl⟩
  obtain ⟨W0, hW0⟩ : ∃ W0, (w1.alloc (.cells #[.slice (some ⟨w.heap.size + 1 + 1 + 1, 0, none⟩) 0 l.length] 22)).alloc (.cells #[.pointer q, .int .i64 l.length] 26) = W0 := ⟨_, rfl⟩
  have hb2 : Below w.heap.size w w1 := hb0.trans (hb1.mono (by simp; omega))
  have hb3 : Below w.heap.size w W0 := by rw [← hW0]; exact (hb2.alloc hb2.size _).alloc (by simp; have := hb2.size; omega) _
  have hF0 : hp.Blk W0 (w.heap.size + 1) 42 [.func (.func k) #[] cap] := by rw [← hW0]; exact (hFn1.alloc _).alloc _
  have hR0 : hp.Blk W0 (w.heap.size + 1 + 1) 26 [.pointer none, .int .i64 0] := by rw [← hW0]; exact (hR1.alloc _).alloc _
  have hC : hp.Blk W0 (w1.heap.size + 1) 26 [.pointer q, .int .i64 l.length] := by
    rw [← hW0]
    (first | exact hp.Blk.newAt (by simp) | exact (hp.Blk.newAt (by simp)).alloc _ | exact ((hp.Blk.newAt (by simp)).alloc _).alloc _ | exact (((hp.Blk.newAt (by simp)).alloc _).alloc _).alloc _ | exact ((((hp.Blk.newAt (by simp)).alloc _).alloc _).alloc _).alloc _ | exact (((((hp.Blk.newAt (by simp)).alloc _).alloc _).alloc _).alloc _).alloc _)
  have hB : hp.Blk W0 w1.heap.size 22 [.slice (some ⟨w.heap.size + 1 + 1 + 1, 0, none⟩) 0 l.length] := by
    rw [← hW0]
    (first | exact hp.Blk.newAt (by simp) | exact (hp.Blk.newAt (by simp)).alloc _ | exact ((hp.Blk.newAt (by simp)).alloc _).alloc _ | exact (((hp.Blk.newAt (by simp)).alloc _).alloc _).alloc _ | exact ((((hp.Blk.newAt (by simp)).alloc _).alloc _).alloc _).alloc _ | exact (((((hp.Blk.newAt (by simp)).alloc _).alloc _).alloc _).alloc _).alloc _)
  have hr0 : W0.ownsRow w.heap.size 3 1 (.slice (some ⟨w.heap.size + 1 + 1 + 1, 0, none⟩) 0 l.length) 0 [] := by rw [← hW0]; exact (hown1.alloc _).alloc _
  have hs1 := hb2.size
  have hs2 := hR1.lt
  rw [hW0]
  clear hW0 hA1 hFn1 hR1 hown1 hA hFn hR hgrow1 hb1 hb0 hsv
  apply rng.wp_range (gf := 38) (lb := #[.pointer (some ⟨w1.heap.size + 1, 0, none⟩)]) rfl enters_all hb3.size
    (all_stops 8 (w1.heap.size + 1) w.heap.size q l.length l W0 hb3.size hC (hc.below hb3)) (fun _ => rfl)
    (fun pre W => Below w.heap.size w W ∧ hp.Blk W (w.heap.size + 1) 42 [.func (.func k) #[] cap] ∧ hp.Blk W (w.heap.size + 1 + 1) 26 [.pointer none, .int .i64 0] ∧ hp.Blk W w1.heap.size 22 [.slice (some ⟨w.heap.size + 1 + 1 + 1, 0, none⟩) pre.length l.length] ∧ W.ownsRow w.heap.size 3 1 (.slice (some ⟨w.heap.size + 1 + 1 + 1, 0, none⟩) pre.length l.length) pre.length ((pre.map F).map (Value.int .i64)))
    (fun _ _ _ => False)
    (by rintro s W W' ⟨h1, h2, h3, h4, h5⟩ T; exact ⟨T.below h1 hb3.size h1.size, T.blk h2, T.blk h3, T.blk h4, T.row h5⟩)
    (fun _ _ _ _ h _ => h)
    ⟨hb3, hF0, hR0, hB, hr0⟩
  · intro l x W K hK
    gi_wp2
    exact hK
  · rintro r pre x W ⟨hb, hkf, hkr, hk, hrow⟩ hlen
    have hcx := fun w' (h : Below W.heap.size W w') => hcall x w' (hb.trans (h.mono hb.size))
    obtain ⟨y, hy0⟩ : ∃ y, F x = y := ⟨_, rfl⟩
    rw [hy0] at hcx
    have hy := Lib.hid hy0
    clear hy0
    refine wpIn_block ?_
    refine rng.region_in (by kernel_rfl) (by kernel_rfl) (fun _ _ h => h) ?_
    apply rel.region_tail_any (C := fun w' => Below W.heap.size W w') (X := fun w w' => Below w.heap.size w w') 5 (by kernel_rfl) (by kernel_rfl) (by kernel_rfl) ((Below.refl _ _).drew)
    (apply rel.walk_val; (focus (intro wq hq hf; (have d0 := (hk.on hq).cell 0; simp only [List.getElem?_cons_zero] at d0); go_wp2; refine ⟨hq, Below.refl _ _, ?_, rfl⟩; (show rel.slot _ _ = _; simp only [rel.slot_lit, List.getD_cons_succ, List.getD_cons_zero]; (first | done | exact rfl)))); (simp only [rel.put_lit, List.set_cons_succ, List.set_cons_zero]))
    (apply rel.walk_val; (focus (intro wq hq hf; (have d0 := (hkf.on hq).cell 0; simp only [List.getElem?_cons_zero] at d0); go_wp2; refine ⟨hq, Below.refl _ _, ?_, rfl⟩; (show rel.slot _ _ = _; simp only [rel.slot_lit, List.getD_cons_succ, List.getD_cons_zero]; (first | done | exact rfl)))); (simp only [rel.put_lit, List.set_cons_succ, List.set_cons_zero]))
    (apply rel.walk_val; (focus (intro wq hq hf; go_wp2; refine ⟨hq, Below.refl _ _, ?_, rfl⟩; (show rel.slot _ _ = _; simp only [rel.slot_lit, List.getD_cons_succ, List.getD_cons_zero]; (first | done | exact rfl)))); (simp only [rel.put_lit, List.set_cons_succ, List.set_cons_zero]))
    (apply rel.walk_val; (focus (intro wq hq hf; go_wp2_with (refine (hcx _ hq).mono ?_; rintro e w'' ⟨rfl, hb⟩); refine ⟨hq.trans (hb.mono hq.size), hb, ?_, rfl⟩; (show rel.slot _ _ = _; simp only [rel.slot_lit, List.getD_cons_succ, List.getD_cons_zero]; (first | done | exact rfl)))); (simp only [rel.put_lit, List.set_cons_succ, List.set_cons_zero]))
    (apply rel.walk_rel (fun u w' => ∃ g, u = .slice (some ⟨g, 0, none⟩) 1 1 ∧ hp.Blk w' g 3 [.int .i64 y]) ⟨_, rfl⟩ (fun u w1 w2 h1 h2 => by obtain ⟨g, he, hk⟩ := h2; exact ⟨g, he, hk.on h1⟩); (focus (intro wq hq hf; go_wp2; refine ⟨hq.alloc hq.size _, (Below.refl _ _).alloc (Nat.le_refl _) _, ?_, rfl⟩; (show ∃ g, rel.slot _ _ = _ ∧ _; simp only [rel.slot_lit, List.getD_cons_succ, List.getD_cons_zero]; exact ⟨_, rfl, hp.Blk.new _ _ _⟩))); (intro u wu _ hu; obtain ⟨gu, rfl, -⟩ := hu; (simp only [rel.put_lit, List.set_cons_succ, List.set_cons_zero])))
    refine rel.walk_nil ?_
    intro w9 K9 hF9
    obtain ⟨g, hge, hgk⟩ : ∃ g, Value.slice (some ⟨gu, 0, none⟩) 1 1 = Value.slice (some ⟨g, 0, none⟩) 1 1 ∧ hp.Blk w9 g 3 [.int .i64 y] := hF9 _ (List.mem_cons_self ..)
    obtain rfl : gu = g := by simpa using hge
    clear hF9 hge
    have hk9 := hk.on K9
    have hrow9 := hp.row_on hrow K9
    have hs9 := K9.size
    have hsb := hb.size
    simp only [List.drop_succ_cons, List.drop_zero]
    go_wp2_with (at_builtin; refine wpList_append_fits _ rfl _ _ 22 rfl w.heap.size 3 i0 1 Try.underlying22 hi hz1 (w.heap.size + 1 + 1 + 1) pre.length l.length _ rfl hrow9 ⟨gu, 0, none⟩ 1 1 [.int .i64 y] rfl rfl (blk_cells hgk) (by simp [Value.oneCell']) hlen ?_; intro w2 hown' hgrow; obtain ⟨hv1, hv2, hr2, hrd⟩ := rng.appended (C := W0.heap.size) hk9 (by decide) hrow9 (by omega) (by omega) hown' hgrow; have hc1 := hv1.cell 0; have hf1 := hv1.free 0; simp only [List.getElem?_cons_zero] at hc1)
    refine ⟨((rng.Rnd.refl _ _ _).call K9 hb.size).trans hrd, (hb.trans (K9.mono hb.size)).trans hrd.below, ?_, ?_, by simpa using hv2, by simpa [hy.out] using hr2⟩
    · exact (rng.blk_grown (hkf.on K9) (by decide) hrow9 hgrow).other (by simp; omega) _
    · exact (rng.blk_grown (hkr.on K9) (by decide) hrow9 hgrow).other (by simp; omega) _
  · rintro D ys W hD rfl ⟨hb, hkf, hkr, hk, hrow⟩ hK
    have hwt : ∀ x ∈ ys.map F, (Lit.int .i64 x).wf = true := fun x hx => by
      obtain ⟨y, _, rfl⟩ := List.mem_map.1 hx
      exact hF y
    have htl : (ys.map F).length < 4611686018427387904 := by simp; omega
    have hI := hp.IsInts.of_owns hrow (by simp) hwt
    obtain ⟨t, ht0⟩ : ∃ t, ys.map F = t := ⟨_, rfl⟩
    rw [ht0] at hwt htl hI
    clear hrow
    have ht := Lib.hid ht0
    clear ht0
    have hd := hk.cell 0
    simp only [List.getElem?_cons_zero] at hd
    have hDD : w.heap.size ≤ D := by have := hb3.size; omega
    go_wp2_with (go_at_call 13; refine (of_any _ _ _ hI htl).mono ?_; rintro e w1 ⟨⟨u, rfl, hu⟩, hb1⟩; have hu0 := hu; obtain ⟨pu, rfl, -, -⟩ := hu0; have hR1 := hkr.on hb1; obtain ⟨c0, c1⟩ := hR1.cells2; have cf := hR1.free)
    have hK1 := (hb1.block D (Array.getElem?_eq_some_iff.1 hK).1).trans hK
    have hK2 := ((KeepsOthers.setCell _ ⟨w.heap.size + 1 + 1, 0, none⟩ (.pointer pu)).trans (KeepsOthers.setCell _ ⟨w.heap.size + 1 + 1, 1, none⟩ (.int .i64 t.length))).same D _ hK1 rfl
    have T := rng.Turn.put (B := w.heap.size) (.deferred none) hDD hK2 rfl
    obtain ⟨f0, f1⟩ := (T.blk (hR1.set2 (.pointer pu) (.int .i64 t.length))).cells2
    have hu3 := (hu.set2 hR1 (.pointer pu) (.int .i64 t.length)).mono (show w1.heap.size ≤ ((w1.setCell ⟨w.heap.size + 1 + 1, 0, none⟩ (.pointer pu)).setCell ⟨w.heap.size + 1 + 1, 1, none⟩ (.int .i64 t.length)).heap.size by simp)
    refine rng.postM_ret (v := lv pu t.length) hK2 rfl (by simp [results, Try.results26, go_sem, f0, f1]) ⟨⟨_, rfl, by rw [ht.out]; exact T.list hu3⟩, ?_⟩
    refine T.below ?_ (Nat.le_refl _) (by have := hb.size; have := hb1.size; simp; omega)
    exact ((hb.trans (hb1.mono hb.size)).setCell (by simp; omega) _).setCell (by simp; omega) _
  · rintro D c pre W _ _ h _
    exact h.elim
end Go.Proofs.Ytkhnfkejmhhcjaa.lst
