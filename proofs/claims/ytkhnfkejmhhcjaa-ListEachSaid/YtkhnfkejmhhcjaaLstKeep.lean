/- Package list: the functions that are handed a function. -/
import Derived.Test.YtkhnfkejmhhcjaaLstRev
namespace Go.Proofs.Ytkhnfkejmhhcjaa.lst
open Go Go.RowKit Go.Shelf
attribute [local go_sem] Oper.semAt_some

/-- a function value that, wherever it is called later on, gives back this of a number -/
def Fn1 (w : World) (fv : Value) (F : Int → Value) : Prop :=
  ∃ k cap, fv = .func (.func k) #[] cap ∧ (∀ args w, (callFunc k args).run Try.prog w = .ok (.enter k args) w) ∧ ∀ x w', Below w.heap.size w w' → Calls Try.prog k (#[.int .i64 x] ++ cap) w' fun e w'' => e = .returned (F x) ∧ Below w'.heap.size w' w''
theorem Fn1.on {w w' : World} {fv : Value} {F : Int → Value} (h : Fn1 w fv F) (hb : Below w.heap.size w w') : Fn1 w' fv F := by
  obtain ⟨k, cap, he, eg, hc⟩ := h
  exact ⟨k, cap, he, eg, fun x w2 h2 => hc x w2 (hb.trans (h2.mono hb.size))⟩

set_option maxHeartbeats 4000000 in
theorem keep_any (v : Value) (l : List Int) (fv : Value) (p : Int → Bool) (w : World) (hv : IsList w w.heap.size v l) (hf : Fn1 w fv fun x => .bool (p x)) (hbd : l.length ≤ 17592186044416) :
    Calls Try.prog 30 #[v, fv] w fun e w' => (∃ u, e = .returned u ∧ IsList w' w'.heap.size u (l.filter p)) ∧ Below w.heap.size w w' := by
  obtain ⟨q, rfl, hc, hw⟩ := hv
  obtain ⟨k, cap, rfl, eg, hcall⟩ := hf
  obtain ⟨i0, hi, hz0, hz1, hz2⟩ := info_parts infoInt
  (refine rng.calls_of_marks Try.func30 rfl ?_; simp only [Try.ntmps30, List.size_toArray, List.length_cons, List.length_nil, Nat.reduceAdd, Nat.reduceSub, Array.replicate_succ, Array.replicate_zero, List.push_toArray, List.append_toArray, List.nil_append, List.cons_append])
  go_wp2_with (go_at_call 36; refine (all_any _ _ _).mono ?_; rintro e w2 ⟨rfl, rfl⟩)
  obtain ⟨W0, hW0⟩ : ∃ W0, ((((w.alloc (.cells #[.pointer q, .int .i64 l.length] 26)).alloc (.cells #[.func (.func k) #[] cap] 45)).alloc (.cells #[.pointer none, .int .i64 0] 26)).alloc (.cells #[.slice none 0 0] 22)).alloc (.cells #[.pointer q, .int .i64 l.length] 26) = W0 := ⟨_, rfl⟩
  have hb3 : Below w.heap.size w W0 := by
    rw [← hW0]
    ((repeat' (first | with_reducible exact Below.refl _ _ | with_reducible apply Below.setCell | with_reducible apply below_drewN | with_reducible apply Below.drew | with_reducible apply Below.alloc | with_reducible refine Below.trans ?_ (Below.mono (by assumption) ?_))) <;> (first | (simp; done) | (simp; omega) | omega))
  have hF : hp.Blk W0 (w.heap.size + 1) 45 [.func (.func k) #[] cap] := by
    rw [← hW0]
    (first | exact hp.Blk.newAt (by simp) | exact (hp.Blk.newAt (by simp)).alloc _ | exact ((hp.Blk.newAt (by simp)).alloc _).alloc _ | exact (((hp.Blk.newAt (by simp)).alloc _).alloc _).alloc _ | exact ((((hp.Blk.newAt (by simp)).alloc _).alloc _).alloc _).alloc _ | exact (((((hp.Blk.newAt (by simp)).alloc _).alloc _).alloc _).alloc _).alloc _)
  have hR : hp.Blk W0 (w.heap.size + 1 + 1) 26 [.pointer none, .int .i64 0] := by
    rw [← hW0]
    (first | exact hp.Blk.newAt (by simp) | exact (hp.Blk.newAt (by simp)).alloc _ | exact ((hp.Blk.newAt (by simp)).alloc _).alloc _ | exact (((hp.Blk.newAt (by simp)).alloc _).alloc _).alloc _ | exact ((((hp.Blk.newAt (by simp)).alloc _).alloc _).alloc _).alloc _ | exact (((((hp.Blk.newAt (by simp)).alloc _).alloc _).alloc _).alloc _).alloc _)
  have hM : hp.Blk W0 (w.heap.size + 1 + 1 + 1) 22 [.slice none 0 0] := by
    rw [← hW0]
    (first | exact hp.Blk.newAt (by simp) | exact (hp.Blk.newAt (by simp)).alloc _ | exact ((hp.Blk.newAt (by simp)).alloc _).alloc _ | exact (((hp.Blk.newAt (by simp)).alloc _).alloc _).alloc _ | exact ((((hp.Blk.newAt (by simp)).alloc _).alloc _).alloc _).alloc _ | exact (((((hp.Blk.newAt (by simp)).alloc _).alloc _).alloc _).alloc _).alloc _)
  have hC : hp.Blk W0 (w.heap.size + 1 + 1 + 1 + 1) 26 [.pointer q, .int .i64 l.length] := by
    rw [← hW0]
    (first | exact hp.Blk.newAt (by simp) | exact (hp.Blk.newAt (by simp)).alloc _ | exact ((hp.Blk.newAt (by simp)).alloc _).alloc _ | exact (((hp.Blk.newAt (by simp)).alloc _).alloc _).alloc _ | exact ((((hp.Blk.newAt (by simp)).alloc _).alloc _).alloc _).alloc _ | exact (((((hp.Blk.newAt (by simp)).alloc _).alloc _).alloc _).alloc _).alloc _)
  rw [hW0]
  apply rng.wp_range (gf := 38) (lb := #[.pointer (some ⟨w.heap.size + 1 + 1 + 1 + 1, 0, none⟩)]) rfl enters_all hb3.size
    (all_stops 8 (w.heap.size + 1 + 1 + 1 + 1) w.heap.size q l.length l W0 hb3.size hC (hc.below hb3)) (fun _ => rfl)
    (fun pre W => Below w.heap.size w W ∧ hp.Blk W (w.heap.size + 1) 45 [.func (.func k) #[] cap] ∧ hp.Blk W (w.heap.size + 1 + 1) 26 [.pointer none, .int .i64 0] ∧ ∃ v, hp.Blk W (w.heap.size + 1 + 1 + 1) 22 [v] ∧ W.ownsRow w.heap.size 3 1 v (pre.filter p).length ((pre.filter p).map (Value.int .i64)))
    (fun _ _ _ => False)
    (by rintro s W W' ⟨h1, h2, h3, v, h4, h5⟩ T; exact ⟨T.below h1 hb3.size h1.size, T.blk h2, T.blk h3, v, T.blk h4, T.row h5⟩)
    (fun _ _ _ _ h _ => h)
    ⟨hb3, hF, hR, _, hM, World.ownsRow_nil _ _ _ _⟩
  · intro l x W K hK
    gi_wp2
    exact hK
  · rintro r pre x W ⟨hb, hkf, hkr, v, hk, hrow⟩ hlen
    have hd := hkf.cell 0
    simp only [List.getElem?_cons_zero] at hd
    have hfl : (pre.filter p).length ≤ pre.length := List.length_filter_le _ _
    have hcx := hcall x W ((Below.refl _ _).trans (hb.mono (Nat.le_refl _)))
    cases hpx : p x with
    | true =>
      have hsn : (pre ++ [x]).filter p = pre.filter p ++ [x] := by simp [hpx]
      rw [hsn]
      rw [hpx] at hcx
      have hfb : (pre.filter p).length + 1 ≤ 17592186044416 := by omega
      clear hpx hsn
      generalize pre.filter p = t at *
      gi_wp2_with (first
        | (refine ⟨trivial, CallsIn.inRound r (callsIn_wide.2 ?_)⟩; refine hcx.mono ?_; rintro e w1 ⟨rfl, hb1⟩; have hk1 := hk.on hb1; have hrow1 := hp.row_on hrow hb1; have hd1 := hk1.cell 0; simp only [List.getElem?_cons_zero] at hd1)
        | (gi_at_builtin; refine wpListIn_append_own _ rfl _ _ 22 rfl w.heap.size 3 i0 (.int .i64 0) 1 8 Try.underlying22 hi hz0 hz1 hz2 rfl (by decide) _ _ _ rfl (hrow1.alloc _) ⟨w1.heap.size, 0, none⟩ 1 1 [.int .i64 x] rfl rfl (cell_one_new _ _ _) (by simp [Value.oneCell']) (by unfold maxLen; omega) (by omega) (by have := hb.size; have := hb1.size; simp; omega) ?_; intro v' w2 hown' hgrow _; obtain ⟨g', cap', rfl⟩ := ownsRow_succ hown'; obtain ⟨hv1, hv2, hr2, hk2, hbb2⟩ := (show Boxed w1 _ _ v from hk1).appended (by decide) hrow1 (by have := hb.size; have := hb1.size; omega) (by omega) hown' hgrow; have hc1 := hv1.cell; have hf1 := hv1.frozen))
      refine ⟨((rng.Rnd.refl _ _ _).call hb1 hb.size).trans ⟨hk2.from _, hbb2⟩, (hb.trans (hb1.mono hb.size)).trans hbb2, ?_, ?_, _, hv2, by simpa using hr2⟩
      · exact ((hkf.on hb1).grown (by decide) hrow1 hgrow).other (by simp) _
      · exact ((hkr.on hb1).grown (by decide) hrow1 hgrow).other (by simp) _
    | false =>
      have hsn : (pre ++ [x]).filter p = pre.filter p := by simp [hpx]
      rw [hsn]
      rw [hpx] at hcx
      clear hpx hsn
      generalize pre.filter p = t at *
      gi_wp2_with (refine ⟨trivial, CallsIn.inRound r (callsIn_wide.2 ?_)⟩; refine hcx.mono ?_; rintro e w1 ⟨rfl, hb1⟩)
      exact ⟨(rng.Rnd.refl _ _ _).call hb1 hb.size, hb.trans (hb1.mono hb.size), hkf.on hb1, hkr.on hb1, v, hk.on hb1, hp.row_on hrow hb1⟩
  · rintro D ys W hD rfl ⟨hb, hkf, hkr, v, hk, hrow⟩ hK
    have hwt : ∀ x ∈ ys.filter p, (Lit.int .i64 x).wf = true := fun x hx => hw x (List.mem_filter.1 hx).1
    have htl : (ys.filter p).length < 4611686018427387904 := by have := List.length_filter_le p ys; omega
    obtain ⟨t, ht0⟩ : ∃ t, ys.filter p = t := ⟨_, rfl⟩
    rw [ht0] at hwt htl hrow
    have ht := Lib.hid ht0
    clear ht0
    have hI : hp.IsInts W W.heap.size v t := hp.IsInts.of_owns hrow rfl hwt
    have hd := hk.cell 0
    simp only [List.getElem?_cons_zero] at hd
    have hDD : w.heap.size ≤ D := by have := hb3.size; omega
    go_wp2_with (go_at_call 13; refine (of_any _ _ _ hI htl).mono ?_; rintro e w1 ⟨⟨u, rfl, hu⟩, hb1⟩; have hu0 := hu; obtain ⟨pu, rfl, -, -⟩ := hu0; have hR1 := hkr.on hb1; obtain ⟨c0, c1⟩ := hR1.cells2; have cf := hR1.free)
    have hK1 := (hb1.block D (Array.getElem?_eq_some_iff.1 hK).1).trans hK
    have hK2 := ((KeepsOthers.setCell _ ⟨w.heap.size + 1 + 1, 0, none⟩ (.pointer pu)).trans (KeepsOthers.setCell _ ⟨w.heap.size + 1 + 1, 1, none⟩ (.int .i64 t.length))).same D _ hK1 rfl
    have T := rng.Turn.put (B := w.heap.size) (.deferred none) hDD hK2 rfl
    obtain ⟨f0, f1⟩ := (T.blk (hR1.set2 (.pointer pu) (.int .i64 t.length))).cells2
    have hu3 := (hu.set2 hR1 (.pointer pu) (.int .i64 t.length)).mono (show w1.heap.size ≤ ((w1.setCell ⟨w.heap.size + 1 + 1, 0, none⟩ (.pointer pu)).setCell ⟨w.heap.size + 1 + 1, 1, none⟩ (.int .i64 t.length)).heap.size by simp)
    refine rng.postM_ret (v := lv pu t.length) hK2 rfl (by simp [results, Try.results30, go_sem, f0, f1]) ⟨⟨_, rfl, by rw [ht.out]; exact T.list hu3⟩, ?_⟩
    refine T.below ?_ (Nat.le_refl _) (by have := hb.size; have := hb1.size; simp; omega)
    exact ((hb.trans (hb1.mono hb.size)).setCell (by simp; omega) _).setCell (by simp; omega) _
  · rintro D c pre W _ _ h _
    exact h.elim

/-- a function value of two numbers -/
def Fn2 (w : World) (fv : Value) (F : Int → Int → Int) : Prop :=
  ∃ k cap, fv = .func (.func k) #[] cap ∧ (∀ args w, (callFunc k args).run Try.prog w = .ok (.enter k args) w) ∧ ∀ z x w', Below w.heap.size w w' → Calls Try.prog k (#[.int .i64 z, .int .i64 x] ++ cap) w' fun e w'' => e = .returned (.int .i64 (F z x)) ∧ Below w'.heap.size w' w''
theorem Fn2.on {w w' : World} {fv : Value} {F : Int → Int → Int} (h : Fn2 w fv F) (hb : Below w.heap.size w w') : Fn2 w' fv F := by
  obtain ⟨k, cap, he, eg, hc⟩ := h
  exact ⟨k, cap, he, eg, fun z x w2 h2 => hc z x w2 (hb.trans (h2.mono hb.size))⟩

set_option maxHeartbeats 4000000 in
theorem fold_any (v : Value) (l : List Int) (z : Int) (fv : Value) (F : Int → Int → Int) (w : World) (hv : IsList w w.heap.size v l) (hf : Fn2 w fv F) :
    Calls Try.prog 35 #[v, .int .i64 z, fv] w fun e w' => e = .returned (.int .i64 (l.foldl F z)) ∧ Below w.heap.size w w' := by
  obtain ⟨q, rfl, hc, hw⟩ := hv
  obtain ⟨k, cap, rfl, eg, hcall⟩ := hf
  (refine rng.calls_of_marks Try.func35 rfl ?_; simp only [Try.ntmps35, List.size_toArray, List.length_cons, List.length_nil, Nat.reduceAdd, Nat.reduceSub, Array.replicate_succ, Array.replicate_zero, List.push_toArray, List.append_toArray, List.nil_append, List.cons_append])
  go_wp2_with (go_at_call 36; refine (all_any _ _ _).mono ?_; rintro e w2 ⟨rfl, rfl⟩)
  obtain ⟨W0, hW0⟩ : ∃ W0, (((w.alloc (.cells #[.pointer q, .int .i64 l.length] 26)).alloc (.cells #[.int .i64 z] 3)).alloc (.cells #[.func (.func k) #[] cap] 48)).alloc (.cells #[.pointer q, .int .i64 l.length] 26) = W0 := ⟨_, rfl⟩
  have hb3 : Below w.heap.size w W0 := by
    rw [← hW0]
    ((repeat' (first | with_reducible exact Below.refl _ _ | with_reducible apply Below.setCell | with_reducible apply below_drewN | with_reducible apply Below.drew | with_reducible apply Below.alloc | with_reducible refine Below.trans ?_ (Below.mono (by assumption) ?_))) <;> (first | (simp; done) | (simp; omega) | omega))
  have hZ : hp.Blk W0 (w.heap.size + 1) 3 [.int .i64 z] := by
    rw [← hW0]
    (first | exact hp.Blk.newAt (by simp) | exact (hp.Blk.newAt (by simp)).alloc _ | exact ((hp.Blk.newAt (by simp)).alloc _).alloc _ | exact (((hp.Blk.newAt (by simp)).alloc _).alloc _).alloc _ | exact ((((hp.Blk.newAt (by simp)).alloc _).alloc _).alloc _).alloc _ | exact (((((hp.Blk.newAt (by simp)).alloc _).alloc _).alloc _).alloc _).alloc _)
  have hF : hp.Blk W0 (w.heap.size + 1 + 1) 48 [.func (.func k) #[] cap] := by
    rw [← hW0]
    (first | exact hp.Blk.newAt (by simp) | exact (hp.Blk.newAt (by simp)).alloc _ | exact ((hp.Blk.newAt (by simp)).alloc _).alloc _ | exact (((hp.Blk.newAt (by simp)).alloc _).alloc _).alloc _ | exact ((((hp.Blk.newAt (by simp)).alloc _).alloc _).alloc _).alloc _ | exact (((((hp.Blk.newAt (by simp)).alloc _).alloc _).alloc _).alloc _).alloc _)
  have hC : hp.Blk W0 (w.heap.size + 1 + 1 + 1) 26 [.pointer q, .int .i64 l.length] := by
    rw [← hW0]
    (first | exact hp.Blk.newAt (by simp) | exact (hp.Blk.newAt (by simp)).alloc _ | exact ((hp.Blk.newAt (by simp)).alloc _).alloc _ | exact (((hp.Blk.newAt (by simp)).alloc _).alloc _).alloc _ | exact ((((hp.Blk.newAt (by simp)).alloc _).alloc _).alloc _).alloc _ | exact (((((hp.Blk.newAt (by simp)).alloc _).alloc _).alloc _).alloc _).alloc _)
  rw [hW0]
  apply rng.wp_range (gf := 38) (lb := #[.pointer (some ⟨w.heap.size + 1 + 1 + 1, 0, none⟩)]) rfl enters_all hb3.size
    (all_stops 8 (w.heap.size + 1 + 1 + 1) w.heap.size q l.length l W0 hb3.size hC (hc.below hb3)) (fun _ => rfl)
    (fun pre W => Below w.heap.size w W ∧ hp.Blk W (w.heap.size + 1) 3 [.int .i64 (pre.foldl F z)] ∧ hp.Blk W (w.heap.size + 1 + 1) 48 [.func (.func k) #[] cap])
    (fun _ _ _ => False)
    (by rintro s W W' ⟨h1, h2, h3⟩ T; exact ⟨T.below h1 hb3.size h1.size, T.blk h2, T.blk h3⟩)
    (fun _ _ _ _ h _ => h)
    ⟨hb3, hZ, hF⟩
  · intro l x W K hK
    gi_wp2
    exact hK
  · rintro r pre x W ⟨hb, hkz, hkf⟩ hlen
    rw [List.foldl_append, List.foldl_cons, List.foldl_nil]
    generalize pre.foldl F z = y at *
    have hd := hkf.cell 0
    have hd2 := hkz.cell 0
    simp only [List.getElem?_cons_zero] at hd hd2
    have hcx := hcall y x W (hb.mono (Nat.le_refl _))
    gi_wp2_with (refine ⟨trivial, CallsIn.inRound r (callsIn_wide.2 ?_)⟩; refine hcx.mono ?_; rintro e w1 ⟨rfl, hb1⟩; have hk1 := hkz.on hb1; have hd1 := hk1.cell 0; simp only [List.getElem?_cons_zero] at hd1; have df := hk1.free)
    exact ⟨((rng.Rnd.refl _ _ _).call hb1 hb.size).set (by omega) _ _, (hb.trans (hb1.mono hb.size)).setCell (by simp) _, hk1.set 0 _, (hkf.on hb1).other (by simp) _⟩
  · rintro D ys W hD rfl ⟨hb, hkz, hkf⟩ hK
    have hd2 := hkz.cell 0
    simp only [List.getElem?_cons_zero] at hd2
    go_wp2
    refine rng.postM_ret hK rfl (results_tmp rfl _ _ _) ⟨rfl, ?_⟩
    exact (rng.Turn.put (B := w.heap.size) _ (by have := hb3.size; omega) hK rfl).below hb (Nat.le_refl _) hb.size
  · rintro D c pre W _ _ h _
    exact h.elim
end Go.Proofs.Ytkhnfkejmhhcjaa.lst
