/- The walk of ListStays. -/
import Derived.Test.YtkhnfkejmhhcjaaLstWalks
namespace Go.Proofs.Ytkhnfkejmhhcjaa.listStays
open Go Go.RowKit
set_option linter.unusedVariables false

set_option maxHeartbeats 8000000 in
theorem walk (v0 : Value) (l0 : List Int) (x1 : Int) (v2 : Value) (l2 : List Int) (w : World) (i0 : hp.IsInts w w.heap.size v0 l0) (w1 : (Lit.int .i64 x1).wf = true) (i2 : hp.IsInts w w.heap.size v2 l2) (bd0 : l0.length ≤ 17592186043904) (bd1 : l2.length ≤ 17592186043904)  :
    Calls Try.prog 10 #[v0, .int .i64 x1, v2] w fun e w' => e = .returned (.bool true) ∧ Below w.heap.size w w' := by
  have hb : Below w.heap.size w w := Below.refl _ _
  have hsf := lst.store_func
  obtain ⟨a0, c0, he0, hr0⟩ := i0
  have i0 : hp.IsInts w w.heap.size (.slice a0 l0.length c0) l0 := ⟨a0, c0, rfl, hr0⟩
  subst he0
  clear hr0
  obtain ⟨a2, c2, he2, hr2⟩ := i2
  have i2 : hp.IsInts w w.heap.size (.slice a2 l2.length c2) l2 := ⟨a2, c2, rfl, hr2⟩
  subst he2
  clear hr2
  go_enter Try.func10, Try.ntmps10
  refine wp_seq_k fun K1 hK1 => ?_
  replace hK1 := Lib.hid hK1
  -- region 0 (low.go:210)
  apply rel.seq (C := fun w' => Below w.heap.size w w') (X := fun w w' => Below w.heap.size w w') (by kernel_rfl) (by kernel_rfl) (Below.refl _ _)
  (apply rel.walk_val; (focus (intro wq hq hf; go_wp2; refine ⟨hq, Below.refl _ _, ?_, rfl⟩; (show rel.slot _ _ = _; simp only [rel.slot_lit, List.getD_cons_succ, List.getD_cons_zero]; (first | done | exact rfl)))); (simp only [rel.put_lit, List.set_cons_succ, List.set_cons_zero]))
  refine rel.walk_nil ?_
  intro W2 kwW2 hF
  clear hF
  replace i0 := i0.on kwW2
  replace i2 := i2.on kwW2
  replace hb := hb.trans (kwW2.mono hb.size)
  refine hK1.out _ _ ?_
  refine wp_seq_k fun K3 hK3 => ?_
  replace hK3 := Lib.hid hK3
  -- region 1 (low.go:211)
  apply rel.seq (C := fun w' => Below W2.heap.size W2 w') (X := fun w w' => Below w.heap.size w w') (by kernel_rfl) (by kernel_rfl) (Below.refl _ _)
  (apply rel.walk_val; (focus (intro wq hq hf; go_wp2_with (go_at_call 12; refine (lst.listed_any _).mono ?_; rintro e w'' ⟨rfl, hbb⟩); refine ⟨hq.trans (hbb.mono hq.size), hbb, ?_, rfl⟩; (show rel.slot _ _ = _; simp only [rel.slot_lit, List.getD_cons_succ, List.getD_cons_zero]; (first | done | exact rfl)))); (simp only [rel.put_lit, List.set_cons_succ, List.set_cons_zero]))
  (apply rel.walk_val; (focus (intro wq hq hf; go_wp2; refine ⟨hq, Below.refl _ _, ?_, rfl⟩; (show rel.slot _ _ = _; simp only [rel.slot_lit, List.getD_cons_succ, List.getD_cons_zero]; (first | done | exact rfl)))); (simp only [rel.put_lit, List.set_cons_succ, List.set_cons_zero]))
  refine rel.walk_nil ?_
  intro W4 kwW4 hF
  clear hF
  replace i0 := i0.on kwW4
  replace i2 := i2.on kwW4
  replace hb := hb.trans (kwW4.mono hb.size)
  refine hK3.out _ _ ?_
  refine wp_seq_k fun K5 hK5 => ?_
  replace hK5 := Lib.hid hK5
  refine wp_seq_k fun K6 hK6 => ?_
  replace hK6 := Lib.hid hK6
  -- region 2 (low.go:212)
  apply rel.seq (C := fun w' => Below W4.heap.size W4 w') (X := fun w w' => Below w.heap.size w w') (by kernel_rfl) (by kernel_rfl) (Below.refl _ _)
  (apply rel.walk_val; (focus (intro wq hq hf; go_wp2; refine ⟨hq, Below.refl _ _, ?_, rfl⟩; (show rel.slot _ _ = _; simp only [rel.slot_lit, List.getD_cons_succ, List.getD_cons_zero]; (first | done | exact rfl)))); (simp only [rel.put_lit, List.set_cons_succ, List.set_cons_zero]))
  (apply rel.walk_val; (focus (intro wq hq hf; go_wp2; refine ⟨hq, Below.refl _ _, ?_, rfl⟩; (show rel.slot _ _ = _; simp only [rel.slot_lit, List.getD_cons_succ, List.getD_cons_zero]; (first | done | exact rfl)))); (simp only [rel.put_lit, List.set_cons_succ, List.set_cons_zero]))
  refine rel.walk_nil ?_
  intro W7 kwW7 hF
  clear hF
  replace i0 := i0.on kwW7
  replace i2 := i2.on kwW7
  replace hb := hb.trans (kwW7.mono hb.size)
  refine hK6.out _ _ ?_
  refine wp_cond_false rfl ?_
  refine wp_skip ?_
  refine hK5.out _ _ ?_
  refine wp_seq_k fun K8 hK8 => ?_
  replace hK8 := Lib.hid hK8
  -- region 4 (low.go:215)
  apply rel.seq_tail (hn := by decide) (C := fun w' => Below W7.heap.size W7 w') (X := fun w w' => Below w.heap.size w w') 2 (by kernel_rfl) (by kernel_rfl) (Below.refl _ _)
  (apply rel.walk_val; (focus (intro wq hq hf; go_wp2; refine ⟨hq, Below.refl _ _, ?_, rfl⟩; (show rel.slot _ _ = _; simp only [rel.slot_lit, List.getD_cons_succ, List.getD_cons_zero]; (first | done | exact rfl)))); (simp only [rel.put_lit, List.set_cons_succ, List.set_cons_zero]))
  (apply rel.walk_rel (fun u w' => lst.IsList w' w'.heap.size u (l0)) ⟨_, rfl⟩ (fun u w1 w2 h1 h2 => h2.on h1); (focus (intro wq hq hf; go_wp2_with (go_at_call 13; refine (lst.of_any _ l0 _ (i0.on hq) (by first | omega | simp)).mono ?_; rintro e w'' ⟨⟨u, rfl, hu⟩, hbb⟩); refine ⟨hq.trans (hbb.mono hq.size), hbb, ?_, rfl⟩; (show lst.IsList _ _ (rel.slot _ _) _; simp only [rel.slot_lit, List.getD_cons_succ, List.getD_cons_zero]; exact hu))); (intro u wu _ hu; obtain ⟨p9, rfl, -, -⟩ := hu; (simp only [rel.put_lit, List.set_cons_succ, List.set_cons_zero])))
  refine rel.walk_nil ?_
  intro W10 kwW10 hF
  have f11 : lst.IsList W10 W10.heap.size (lst.lv p9 l0.length) l0 := rel.fact hF 0 rfl
  clear hF
  replace i0 := i0.on kwW10
  replace i2 := i2.on kwW10
  replace hb := hb.trans (kwW10.mono hb.size)
  simp only [List.drop_succ_cons, List.drop_zero]
  go_wp2
  obtain ⟨W12, hW12⟩ : ∃ x, (W10.alloc (.cells #[.pointer p9, .int .i64 l0.length] 26)) = x := ⟨_, rfl⟩
  have B13 : hp.Blk W12 (W10.heap.size) 26 [.pointer p9, .int .i64 l0.length] := by rw [← hW12]; (first | exact hp.Blk.newAt (by simp) | exact (hp.Blk.newAt (by simp)).alloc _ | exact ((hp.Blk.newAt (by simp)).alloc _).alloc _ | exact (((hp.Blk.newAt (by simp)).alloc _).alloc _).alloc _ | exact ((((hp.Blk.newAt (by simp)).alloc _).alloc _).alloc _).alloc _ | exact (((((hp.Blk.newAt (by simp)).alloc _).alloc _).alloc _).alloc _).alloc _)
  have kwW12 : Below W10.heap.size W10 W12 := by rw [← hW12]; ((repeat' (first | with_reducible exact Below.refl _ _ | with_reducible apply Below.setCell | with_reducible apply below_drewN | with_reducible apply Below.drew | with_reducible apply Below.alloc | with_reducible refine Below.trans ?_ (Below.mono (by assumption) ?_))) <;> (first | (simp; done) | (simp; omega) | omega))
  rw [hW12]
  clear hW12
  replace i0 := i0.on kwW12
  replace i2 := i2.on kwW12
  replace f11 := f11.on kwW12
  replace hb := hb.trans (kwW12.mono hb.size)
  refine hK8.out _ _ ?_
  refine wp_seq_k fun K14 hK14 => ?_
  replace hK14 := Lib.hid hK14
  obtain ⟨t16, ht16, bt16⟩ := rel.name_list (x1 :: l0) 17592186043905 (by simp; omega)
  -- region 5 (low.go:216)
  apply rel.seq_tail (hn := by decide) (C := fun w' => Below W12.heap.size W12 w') (X := fun w w' => Below w.heap.size w w') 3 (by kernel_rfl) (by kernel_rfl) (Below.refl _ _)
  ((apply rel.walk_val; (focus (intro wq hq hf; (obtain ⟨d0, d1⟩ := ((B13).below hq (B13).lt).cells2); go_wp2; refine ⟨hq, Below.refl _ _, ?_, rfl⟩; (show rel.slot _ _ = _; simp only [rel.slot_lit, List.getD_cons_succ, List.getD_cons_zero]; (first | done | exact rfl)))); (simp only [rel.put_lit, List.set_cons_succ, List.set_cons_zero])))
  (apply rel.walk_val; (focus (intro wq hq hf; go_wp2; refine ⟨hq, Below.refl _ _, ?_, rfl⟩; (show rel.slot _ _ = _; simp only [rel.slot_lit, List.getD_cons_succ, List.getD_cons_zero]; (first | done | exact rfl)))); (simp only [rel.put_lit, List.set_cons_succ, List.set_cons_zero]))
  (apply rel.walk_rel (fun u w' => lst.IsList w' w'.heap.size u (t16)) ⟨_, rfl⟩ (fun u w1 w2 h1 h2 => h2.on h1); (focus (intro wq hq hf; go_wp2_with (go_at_call 16; refine (lst.push_to ht16.out (f11.on hq) w1 (by first | omega | simp)).mono ?_; rintro e w'' ⟨⟨u, rfl, hu⟩, hbb⟩); refine ⟨hq.trans (hbb.mono hq.size), hbb, ?_, rfl⟩; (show lst.IsList _ _ (rel.slot _ _) _; simp only [rel.slot_lit, List.getD_cons_succ, List.getD_cons_zero]; exact hu))); (intro u wu _ hu; obtain ⟨p15, rfl, -, -⟩ := hu; (simp only [rel.put_lit, List.set_cons_succ, List.set_cons_zero])))
  refine rel.walk_nil ?_
  intro W17 kwW17 hF
  have f18 : lst.IsList W17 W17.heap.size (lst.lv p15 t16.length) t16 := rel.fact hF 0 rfl
  clear hF
  replace i0 := i0.on kwW17
  replace i2 := i2.on kwW17
  replace f11 := f11.on kwW17
  replace B13 := B13.on kwW17
  replace hb := hb.trans (kwW17.mono hb.size)
  simp only [List.drop_succ_cons, List.drop_zero]
  go_wp2
  obtain ⟨W19, hW19⟩ : ∃ x, (W17.alloc (.cells #[.pointer p15, .int .i64 t16.length] 26)) = x := ⟨_, rfl⟩
  have B20 : hp.Blk W19 (W17.heap.size) 26 [.pointer p15, .int .i64 t16.length] := by rw [← hW19]; (first | exact hp.Blk.newAt (by simp) | exact (hp.Blk.newAt (by simp)).alloc _ | exact ((hp.Blk.newAt (by simp)).alloc _).alloc _ | exact (((hp.Blk.newAt (by simp)).alloc _).alloc _).alloc _ | exact ((((hp.Blk.newAt (by simp)).alloc _).alloc _).alloc _).alloc _ | exact (((((hp.Blk.newAt (by simp)).alloc _).alloc _).alloc _).alloc _).alloc _)
  have kwW19 : Below W17.heap.size W17 W19 := by rw [← hW19]; ((repeat' (first | with_reducible exact Below.refl _ _ | with_reducible apply Below.setCell | with_reducible apply below_drewN | with_reducible apply Below.drew | with_reducible apply Below.alloc | with_reducible refine Below.trans ?_ (Below.mono (by assumption) ?_))) <;> (first | (simp; done) | (simp; omega) | omega))
  rw [hW19]
  clear hW19
  replace i0 := i0.on kwW19
  replace i2 := i2.on kwW19
  replace f11 := f11.on kwW19
  replace B13 := B13.on kwW19
  replace f18 := f18.on kwW19
  replace hb := hb.trans (kwW19.mono hb.size)
  refine hK14.out _ _ ?_
  refine wp_seq_k fun K21 hK21 => ?_
  replace hK21 := Lib.hid hK21
  obtain ⟨t24, ht24, bt24⟩ := rel.name_list (l2 ++ l0) 35184372087808 (by simp; omega)
  have z25 := lst.IsList.nil W19 W19.heap.size
  -- region 6 (low.go:217)
  apply rel.region_tail (C := fun w' => Below W19.heap.size W19 w') (X := fun w w' => Below w.heap.size w w') 5 (by kernel_rfl) (by kernel_rfl) (by kernel_rfl) (by kernel_rfl) ((Below.refl _ _).drew)
  (apply rel.walk_val; (focus (intro wq hq hf; go_wp2; refine ⟨hq, Below.refl _ _, ?_, rfl⟩; (show rel.slot _ _ = _; simp only [rel.slot_lit, List.getD_cons_succ, List.getD_cons_zero]; (first | done | exact rfl)))); (simp only [rel.put_lit, List.set_cons_succ, List.set_cons_zero]))
  (apply rel.walk_rel (fun u w' => lst.IsList w' w'.heap.size u (l2)) ⟨_, rfl⟩ (fun u w1 w2 h1 h2 => h2.on h1); (focus (intro wq hq hf; go_wp2_with (go_at_call 13; refine (lst.of_any _ l2 _ (i2.on hq) (by first | omega | simp)).mono ?_; rintro e w'' ⟨⟨u, rfl, hu⟩, hbb⟩); refine ⟨hq.trans (hbb.mono hq.size), hbb, ?_, rfl⟩; (show lst.IsList _ _ (rel.slot _ _) _; simp only [rel.slot_lit, List.getD_cons_succ, List.getD_cons_zero]; exact hu))); (intro u wu _ hu; obtain ⟨p22, rfl, -, -⟩ := hu; (simp only [rel.put_lit, List.set_cons_succ, List.set_cons_zero])))
  ((apply rel.walk_val; (focus (intro wq hq hf; (obtain ⟨d0, d1⟩ := ((B13).below hq (B13).lt).cells2); go_wp2; refine ⟨hq, Below.refl _ _, ?_, rfl⟩; (show rel.slot _ _ = _; simp only [rel.slot_lit, List.getD_cons_succ, List.getD_cons_zero]; (first | done | exact rfl)))); (simp only [rel.put_lit, List.set_cons_succ, List.set_cons_zero])))
  (apply rel.walk_rel (fun u w' => lst.IsList w' w'.heap.size u (t24)) ⟨_, rfl⟩ (fun u w1 w2 h1 h2 => h2.on h1); (focus (intro wq hq hf; go_wp2_with (go_at_call 21; refine (lst.join_to ht24.out (hf.get 0 rfl rfl) (f11.on hq) (by first | omega | simp) (by first | omega | simp)).mono ?_; rintro e w'' ⟨⟨u, rfl, hu⟩, hbb⟩); refine ⟨hq.trans (hbb.mono hq.size), hbb, ?_, rfl⟩; (show lst.IsList _ _ (rel.slot _ _) _; simp only [rel.slot_lit, List.getD_cons_succ, List.getD_cons_zero]; exact hu))); (intro u wu _ hu; obtain ⟨p23, rfl, -, -⟩ := hu; (simp only [rel.put_lit, List.set_cons_succ, List.set_cons_zero])))
  (apply rel.walk_rel (fun u w' => ∃ g, u = .pointer (some ⟨g, 0, none⟩) ∧ W19.heap.size ≤ g ∧ hp.Blk w' g 26 [.pointer none, .int .i64 0]) ⟨_, rfl⟩ (fun u w1 w2 h1 h2 => by obtain ⟨g, he, hl, hk⟩ := h2; exact ⟨g, he, hl, hk.on h1⟩); (focus (intro wq hq hf; go_wp2; refine ⟨hq.alloc hq.size _, (Below.refl _ _).alloc (Nat.le_refl _) _, ?_, rfl⟩; (show ∃ g, rel.slot _ _ = _ ∧ _; simp only [rel.slot_lit, List.getD_cons_succ, List.getD_cons_zero]; exact ⟨_, rfl, hq.size, hp.Blk.new _ _ _⟩))); (intro u wu _ hu; obtain ⟨g26, rfl, -, -⟩ := hu; (simp only [rel.put_lit, List.set_cons_succ, List.set_cons_zero])))
  refine rel.walk_nil ?_
  intro W27 kwW27 hF
  have f28 : lst.IsList W27 W27.heap.size (lst.lv p23 t24.length) t24 := rel.fact hF 1 rfl
  have z29 := lst.IsList.nil W19 W19.heap.size
  obtain ⟨gx, hge, hgl, hgB⟩ : ∃ g, Value.pointer (some ⟨g26, 0, none⟩) = .pointer (some ⟨g, 0, none⟩) ∧ W19.heap.size ≤ g ∧ hp.Blk W27 g 26 [.pointer none, .int .i64 0] := rel.fact hF 0 rfl
  obtain rfl : g26 = gx := by simpa using hge
  clear hF hge
  simp only [List.drop_succ_cons, List.drop_zero]
  obtain ⟨ce0, ce1⟩ := hgB.cells2
  have cef := hgB.free
  go_wp2
  clear ce0 ce1 cef
  obtain ⟨W30, hW30⟩ : ∃ x, (W27.setCell ⟨g26, 0, none⟩ (.pointer p23)).setCell ⟨g26, 1, none⟩ (.int .i64 t24.length) = x := ⟨_, rfl⟩
  have B31 : hp.Blk W30 g26 26 [.pointer p23, .int .i64 t24.length] := by rw [← hW30]; exact hgB.set2 _ _
  have kwW30 : Below W19.heap.size W19 W30 := by rw [← hW30]; exact (kwW27.setCell hgl _).setCell hgl _
  have f32 : lst.IsList W30 W30.heap.size (lst.lv p23 t24.length) t24 := by rw [← hW30]; exact (f28.set2 hgB _ _).mono (by simp)
  clear f28
  rw [hW30]
  clear hW30 hgB hgl kwW27
  replace i0 := i0.on kwW30
  replace i2 := i2.on kwW30
  replace f11 := f11.on kwW30
  replace B13 := B13.on kwW30
  replace f18 := f18.on kwW30
  replace B20 := B20.on kwW30
  replace z25 := z25.on kwW30
  replace z29 := z29.on kwW30
  replace hb := hb.trans (kwW30.mono hb.size)
  refine hK21.out _ _ ?_
  refine wp_seq_k fun K33 hK33 => ?_
  replace hK33 := Lib.hid hK33
  obtain ⟨t35, ht35, bt35⟩ := rel.name_list (l0.tail) 17592186043904 (by simp; omega)
  -- region 7 (low.go:218)
  apply rel.seq_tail (hn := by decide) (C := fun w' => Below W30.heap.size W30 w') (X := fun w w' => Below w.heap.size w w') 2 (by kernel_rfl) (by kernel_rfl) (Below.refl _ _)
  ((apply rel.walk_val; (focus (intro wq hq hf; (obtain ⟨d0, d1⟩ := ((B13).below hq (B13).lt).cells2); go_wp2; refine ⟨hq, Below.refl _ _, ?_, rfl⟩; (show rel.slot _ _ = _; simp only [rel.slot_lit, List.getD_cons_succ, List.getD_cons_zero]; (first | done | exact rfl)))); (simp only [rel.put_lit, List.set_cons_succ, List.set_cons_zero])))
  (apply rel.walk_rel (fun u w' => ∃ p, u = .tuple #[.int .i64 (l0.head?.getD 0), lst.lv p t35.length, .bool (!l0.isEmpty)] ∧ lst.IsList w' w'.heap.size (lst.lv p t35.length) t35) ⟨_, rfl⟩ (fun u w1 w2 h1 h2 => by obtain ⟨p, he, hl⟩ := h2; exact ⟨p, he, hl.on h1⟩); (focus (intro wq hq hf; go_wp2_with (go_at_call 19; refine (lst.pop_to ht35.out (f11.on hq) (by first | omega | simp)).mono ?_; rintro e w'' ⟨⟨p, rfl, hu⟩, hbb⟩); refine ⟨hq.trans (hbb.mono hq.size), hbb, ?_, rfl⟩; (show ∃ p, rel.slot _ _ = _ ∧ _; simp only [rel.slot_lit, List.getD_cons_succ, List.getD_cons_zero]; exact ⟨p, rfl, hu⟩))); (intro u wu _ hu; obtain ⟨p34, rfl, -⟩ := hu; (simp only [rel.put_lit, List.set_cons_succ, List.set_cons_zero])))
  refine rel.walk_nil ?_
  intro W36 kwW36 hF
  have f37 : lst.IsList W36 W36.heap.size (lst.lv p34 t35.length) t35 := by obtain ⟨px, hpe, hpl⟩ : ∃ p, Value.tuple #[.int .i64 (l0.head?.getD 0), lst.lv p34 t35.length, .bool (!l0.isEmpty)] = .tuple #[.int .i64 (l0.head?.getD 0), lst.lv p t35.length, .bool (!l0.isEmpty)] ∧ lst.IsList W36 W36.heap.size (lst.lv p t35.length) t35 := rel.fact hF 0 rfl; obtain rfl : p34 = px := (by simpa using hpe); exact hpl
  clear hF
  replace i0 := i0.on kwW36
  replace i2 := i2.on kwW36
  replace f11 := f11.on kwW36
  replace B13 := B13.on kwW36
  replace f18 := f18.on kwW36
  replace B20 := B20.on kwW36
  replace z25 := z25.on kwW36
  replace z29 := z29.on kwW36
  replace B31 := B31.on kwW36
  replace f32 := f32.on kwW36
  replace hb := hb.trans (kwW36.mono hb.size)
  simp only [List.drop_succ_cons, List.drop_zero]
  go_wp2
  obtain ⟨W38, hW38⟩ : ∃ x, (W36.alloc (.cells #[.pointer p34, .int .i64 t35.length] 26)) = x := ⟨_, rfl⟩
  have B39 : hp.Blk W38 (W36.heap.size) 26 [.pointer p34, .int .i64 t35.length] := by rw [← hW38]; (first | exact hp.Blk.newAt (by simp) | exact (hp.Blk.newAt (by simp)).alloc _ | exact ((hp.Blk.newAt (by simp)).alloc _).alloc _ | exact (((hp.Blk.newAt (by simp)).alloc _).alloc _).alloc _ | exact ((((hp.Blk.newAt (by simp)).alloc _).alloc _).alloc _).alloc _ | exact (((((hp.Blk.newAt (by simp)).alloc _).alloc _).alloc _).alloc _).alloc _)
  have kwW38 : Below W36.heap.size W36 W38 := by rw [← hW38]; ((repeat' (first | with_reducible exact Below.refl _ _ | with_reducible apply Below.setCell | with_reducible apply below_drewN | with_reducible apply Below.drew | with_reducible apply Below.alloc | with_reducible refine Below.trans ?_ (Below.mono (by assumption) ?_))) <;> (first | (simp; done) | (simp; omega) | omega))
  rw [hW38]
  clear hW38
  replace i0 := i0.on kwW38
  replace i2 := i2.on kwW38
  replace f11 := f11.on kwW38
  replace B13 := B13.on kwW38
  replace f18 := f18.on kwW38
  replace B20 := B20.on kwW38
  replace z25 := z25.on kwW38
  replace z29 := z29.on kwW38
  replace B31 := B31.on kwW38
  replace f32 := f32.on kwW38
  replace f37 := f37.on kwW38
  replace hb := hb.trans (kwW38.mono hb.size)
  refine hK33.out _ _ ?_
  refine wp_seq_k fun K40 hK40 => ?_
  replace hK40 := Lib.hid hK40
  obtain ⟨t42, ht42, bt42⟩ := rel.name_list (l0.reverse) 17592186043904 (by simp; omega)
  -- region 8 (low.go:219)
  apply rel.seq_tail (hn := by decide) (C := fun w' => Below W38.heap.size W38 w') (X := fun w w' => Below w.heap.size w w') 2 (by kernel_rfl) (by kernel_rfl) (Below.refl _ _)
  ((apply rel.walk_val; (focus (intro wq hq hf; (obtain ⟨d0, d1⟩ := ((B13).below hq (B13).lt).cells2); go_wp2; refine ⟨hq, Below.refl _ _, ?_, rfl⟩; (show rel.slot _ _ = _; simp only [rel.slot_lit, List.getD_cons_succ, List.getD_cons_zero]; (first | done | exact rfl)))); (simp only [rel.put_lit, List.set_cons_succ, List.set_cons_zero])))
  (apply rel.walk_rel (fun u w' => lst.IsList w' w'.heap.size u (t42)) ⟨_, rfl⟩ (fun u w1 w2 h1 h2 => h2.on h1); (focus (intro wq hq hf; go_wp2_with (go_at_call 20; refine (lst.rev_to ht42.out (f11.on hq) (by first | omega | simp)).mono ?_; rintro e w'' ⟨⟨u, rfl, hu⟩, hbb⟩); refine ⟨hq.trans (hbb.mono hq.size), hbb, ?_, rfl⟩; (show lst.IsList _ _ (rel.slot _ _) _; simp only [rel.slot_lit, List.getD_cons_succ, List.getD_cons_zero]; exact hu))); (intro u wu _ hu; obtain ⟨p41, rfl, -, -⟩ := hu; (simp only [rel.put_lit, List.set_cons_succ, List.set_cons_zero])))
  refine rel.walk_nil ?_
  intro W43 kwW43 hF
  have f44 : lst.IsList W43 W43.heap.size (lst.lv p41 t42.length) t42 := rel.fact hF 0 rfl
  clear hF
  replace i0 := i0.on kwW43
  replace i2 := i2.on kwW43
  replace f11 := f11.on kwW43
  replace B13 := B13.on kwW43
  replace f18 := f18.on kwW43
  replace B20 := B20.on kwW43
  replace z25 := z25.on kwW43
  replace z29 := z29.on kwW43
  replace B31 := B31.on kwW43
  replace f32 := f32.on kwW43
  replace f37 := f37.on kwW43
  replace B39 := B39.on kwW43
  replace hb := hb.trans (kwW43.mono hb.size)
  simp only [List.drop_succ_cons, List.drop_zero]
  go_wp2
  obtain ⟨W45, hW45⟩ : ∃ x, (W43.alloc (.cells #[.pointer p41, .int .i64 t42.length] 26)) = x := ⟨_, rfl⟩
  have B46 : hp.Blk W45 (W43.heap.size) 26 [.pointer p41, .int .i64 t42.length] := by rw [← hW45]; (first | exact hp.Blk.newAt (by simp) | exact (hp.Blk.newAt (by simp)).alloc _ | exact ((hp.Blk.newAt (by simp)).alloc _).alloc _ | exact (((hp.Blk.newAt (by simp)).alloc _).alloc _).alloc _ | exact ((((hp.Blk.newAt (by simp)).alloc _).alloc _).alloc _).alloc _ | exact (((((hp.Blk.newAt (by simp)).alloc _).alloc _).alloc _).alloc _).alloc _)
  have kwW45 : Below W43.heap.size W43 W45 := by rw [← hW45]; ((repeat' (first | with_reducible exact Below.refl _ _ | with_reducible apply Below.setCell | with_reducible apply below_drewN | with_reducible apply Below.drew | with_reducible apply Below.alloc | with_reducible refine Below.trans ?_ (Below.mono (by assumption) ?_))) <;> (first | (simp; done) | (simp; omega) | omega))
  rw [hW45]
  clear hW45
  replace i0 := i0.on kwW45
  replace i2 := i2.on kwW45
  replace f11 := f11.on kwW45
  replace B13 := B13.on kwW45
  replace f18 := f18.on kwW45
  replace B20 := B20.on kwW45
  replace z25 := z25.on kwW45
  replace z29 := z29.on kwW45
  replace B31 := B31.on kwW45
  replace f32 := f32.on kwW45
  replace f37 := f37.on kwW45
  replace B39 := B39.on kwW45
  replace f44 := f44.on kwW45
  replace hb := hb.trans (kwW45.mono hb.size)
  refine hK40.out _ _ ?_
  refine wp_seq_k fun K47 hK47 => ?_
  replace hK47 := Lib.hid hK47
  -- region 9 (low.go:220)
  apply rel.seq (C := fun w' => Below W45.heap.size W45 w') (X := fun w w' => Below w.heap.size w w') (by kernel_rfl) (by kernel_rfl) (Below.refl _ _)
  ((apply rel.walk_val; (focus (intro wq hq hf; (obtain ⟨d0, d1⟩ := ((B13).below hq (B13).lt).cells2); go_wp2; refine ⟨hq, Below.refl _ _, ?_, rfl⟩; (show rel.slot _ _ = _; simp only [rel.slot_lit, List.getD_cons_succ, List.getD_cons_zero]; (first | done | exact rfl)))); (simp only [rel.put_lit, List.set_cons_succ, List.set_cons_zero])))
  (apply rel.walk_rel (fun u w' => hp.IsInts w' w'.heap.size u (l0)) ⟨_, rfl⟩ (fun u w1 w2 h1 h2 => h2.on h1); (focus (intro wq hq hf; go_wp2_with (go_at_call 15; refine (lst.ints_any _ l0 _ (f11.on hq) (by first | omega | simp)).mono ?_; rintro e w'' ⟨⟨u, rfl, hu⟩, hbb⟩); refine ⟨hq.trans (hbb.mono hq.size), hbb, ?_, rfl⟩; (show hp.IsInts _ _ (rel.slot _ _) _; simp only [rel.slot_lit, List.getD_cons_succ, List.getD_cons_zero]; exact hu))); (intro u wu _ hu; obtain ⟨av48, cv48, rfl, -⟩ := hu; (simp only [rel.put_lit, List.set_cons_succ, List.set_cons_zero])))
  (apply rel.walk_val; (focus (intro wq hq hf; go_wp2; refine ⟨hq, Below.refl _ _, ?_, rfl⟩; (show rel.slot _ _ = _; simp only [rel.slot_lit, List.getD_cons_succ, List.getD_cons_zero]; (first | done | exact rfl)))); (simp only [rel.put_lit, List.set_cons_succ, List.set_cons_zero]))
  (apply rel.walk_val; (focus (intro wq hq hf; go_wp2_with (go_at_call 14; refine (same.ints_eq rfl (hf.get 0 rfl rfl) (i0.on hq)).mono ?_; rintro e w'' ⟨rfl, hbb⟩); refine ⟨hq.trans (hbb.mono hq.size), hbb, ?_, rfl⟩; (show rel.slot _ _ = _; simp only [rel.slot_lit, List.getD_cons_succ, List.getD_cons_zero]; (first | done | exact rfl)))); (simp only [rel.put_lit, List.set_cons_succ, List.set_cons_zero]))
  (apply rel.walk_val; (focus (intro wq hq hf; go_wp2; refine ⟨hq, Below.refl _ _, ?_, rfl⟩; (show rel.slot _ _ = _; simp only [rel.slot_lit, List.getD_cons_succ, List.getD_cons_zero]; (first | done | exact rfl)))); (simp only [rel.put_lit, List.set_cons_succ, List.set_cons_zero]))
  refine rel.walk_nil ?_
  intro W49 kwW49 hF
  clear hF
  replace i0 := i0.on kwW49
  replace i2 := i2.on kwW49
  replace f11 := f11.on kwW49
  replace B13 := B13.on kwW49
  replace f18 := f18.on kwW49
  replace B20 := B20.on kwW49
  replace z25 := z25.on kwW49
  replace z29 := z29.on kwW49
  replace B31 := B31.on kwW49
  replace f32 := f32.on kwW49
  replace f37 := f37.on kwW49
  replace B39 := B39.on kwW49
  replace f44 := f44.on kwW49
  replace B46 := B46.on kwW49
  replace hb := hb.trans (kwW49.mono hb.size)
  refine hK47.out _ _ ?_
  refine wp_seq_k fun K50 hK50 => ?_
  replace hK50 := Lib.hid hK50
  -- region 10 (low.go:221)
  apply rel.seq_tail (hn := by decide) (C := fun w' => Below W49.heap.size W49 w') (X := fun w w' => Below w.heap.size w w') 3 (by kernel_rfl) (by kernel_rfl) (Below.refl _ _)
  ((apply rel.walk_val; (focus (intro wq hq hf; (obtain ⟨d0, d1⟩ := ((B20).below hq (B20).lt).cells2); go_wp2; refine ⟨hq, Below.refl _ _, ?_, rfl⟩; (show rel.slot _ _ = _; simp only [rel.slot_lit, List.getD_cons_succ, List.getD_cons_zero]; (first | done | exact rfl)))); (simp only [rel.put_lit, List.set_cons_succ, List.set_cons_zero])))
  (apply rel.walk_rel (fun u w' => hp.IsInts w' w'.heap.size u (t16)) ⟨_, rfl⟩ (fun u w1 w2 h1 h2 => h2.on h1); (focus (intro wq hq hf; go_wp2_with (go_at_call 15; refine (lst.ints_any _ t16 _ (f18.on hq) (by first | omega | simp)).mono ?_; rintro e w'' ⟨⟨u, rfl, hu⟩, hbb⟩); refine ⟨hq.trans (hbb.mono hq.size), hbb, ?_, rfl⟩; (show hp.IsInts _ _ (rel.slot _ _) _; simp only [rel.slot_lit, List.getD_cons_succ, List.getD_cons_zero]; exact hu))); (intro u wu _ hu; obtain ⟨av51, cv51, rfl, -⟩ := hu; (simp only [rel.put_lit, List.set_cons_succ, List.set_cons_zero])))
  (apply rel.walk_val; (focus (intro wq hq hf; go_wp2; refine ⟨hq, Below.refl _ _, ?_, rfl⟩; (show rel.slot _ _ = _; simp only [rel.slot_lit, List.getD_cons_succ, List.getD_cons_zero]; (first | done | exact rfl)))); (simp only [rel.put_lit, List.set_cons_succ, List.set_cons_zero]))
  refine rel.walk_nil ?_
  intro W52 kwW52 hF
  have f53 : hp.IsInts W52 W52.heap.size (.slice av51 t16.length cv51) t16 := rel.fact hF 0 rfl
  clear hF
  replace i0 := i0.on kwW52
  replace i2 := i2.on kwW52
  replace f11 := f11.on kwW52
  replace B13 := B13.on kwW52
  replace f18 := f18.on kwW52
  replace B20 := B20.on kwW52
  replace z25 := z25.on kwW52
  replace z29 := z29.on kwW52
  replace B31 := B31.on kwW52
  replace f32 := f32.on kwW52
  replace f37 := f37.on kwW52
  replace B39 := B39.on kwW52
  replace f44 := f44.on kwW52
  replace B46 := B46.on kwW52
  replace hb := hb.trans (kwW52.mono hb.size)
  simp only [List.drop_succ_cons, List.drop_zero]
  have he54 : t16 = (x1 :: l0) := (by (simp only [← ht16.out]) <;> simp)
  replace he54 := Lib.hid he54
  go_wp2_with (first | (at_builtin; refine hp.append_ints rfl _ _ 22 rfl W52.heap.size 3 Try.underlying22 same.infoInt _ 1 [x1] rfl (lst.row_lit1 _ _) _ l0 rfl (i0.below ((Below.refl _ _).alloc (Nat.le_refl _) _)) (by omega) (by simp) ?_; intro u10 w10 hown10 hgrow10; have kb10 : Below W52.heap.size W52 w10 := ((Below.refl _ _).alloc (Nat.le_refl _) _).grown hgrow10 (by simp) (fun k e => by cases e; exact Nat.le_refl _); have hI10 : hp.IsInts w10 w10.heap.size u10 (x1 :: l0) := hp.IsInts.of_owns hown10 (by rw [List.length_cons]; omega) (lst.wf_cons w1 i0.wf); obtain ⟨a10, c10, he10, hr10⟩ := hI10; have hI10 : hp.IsInts w10 w10.heap.size (.slice a10 (x1 :: l0).length c10) (x1 :: l0) := ⟨a10, c10, rfl, hr10⟩; subst he10; clear hr10 hown10 hgrow10) | (go_at_call 14; refine (same.ints_eq he54.out (f53.on kb10) hI10).mono ?_; rintro e w11 ⟨rfl, kb11⟩))
  have kwW56 : Below W52.heap.size W52 w11 := kb10.trans (kb11.mono kb10.size)
  clear kb10 kb11 hI10
  generalize w11 = W56 at kwW56 ⊢
  replace i0 := i0.on kwW56
  replace i2 := i2.on kwW56
  replace f11 := f11.on kwW56
  replace B13 := B13.on kwW56
  replace f18 := f18.on kwW56
  replace B20 := B20.on kwW56
  replace z25 := z25.on kwW56
  replace z29 := z29.on kwW56
  replace B31 := B31.on kwW56
  replace f32 := f32.on kwW56
  replace f37 := f37.on kwW56
  replace B39 := B39.on kwW56
  replace f44 := f44.on kwW56
  replace B46 := B46.on kwW56
  replace f53 := f53.on kwW56
  replace hb := hb.trans (kwW56.mono hb.size)
  refine hK50.out _ _ ?_
  refine wp_seq_k fun K57 hK57 => ?_
  replace hK57 := Lib.hid hK57
  -- region 11 (low.go:222)
  apply rel.seq (C := fun w' => Below W56.heap.size W56 w') (X := fun w w' => Below w.heap.size w w') (by kernel_rfl) (by kernel_rfl) (Below.refl _ _)
  (apply rel.walk_val; (focus (intro wq hq hf; go_wp2; refine ⟨hq, Below.refl _ _, ?_, rfl⟩; (show rel.slot _ _ = _; simp only [rel.slot_lit, List.getD_cons_succ, List.getD_cons_zero]; (first | done | exact rfl)))); (simp only [rel.put_lit, List.set_cons_succ, List.set_cons_zero]))
  (apply rel.walk_val; (focus (intro wq hq hf; go_wp2; refine ⟨hq, Below.refl _ _, ?_, rfl⟩; (show rel.slot _ _ = _; simp only [rel.slot_lit, List.getD_cons_succ, List.getD_cons_zero]; (first | done | exact rfl)))); (simp only [rel.put_lit, List.set_cons_succ, List.set_cons_zero]))
  (apply rel.walk_val; (focus (intro wq hq hf; go_wp2; refine ⟨hq, Below.refl _ _, ?_, rfl⟩; (show rel.slot _ _ = _; simp only [rel.slot_lit, List.getD_cons_succ, List.getD_cons_zero]; (first | done | exact rfl)))); (simp only [rel.put_lit, List.set_cons_succ, List.set_cons_zero]))
  (apply rel.walk_val; (focus (intro wq hq hf; go_wp2; refine ⟨hq, Below.refl _ _, ?_, rfl⟩; (show rel.slot _ _ = _; simp only [rel.slot_lit, List.getD_cons_succ, List.getD_cons_zero]; (first | done | exact rfl)))); (simp only [rel.put_lit, List.set_cons_succ, List.set_cons_zero]))
  (apply rel.walk_val; (focus (intro wq hq hf; go_wp2; refine ⟨hq, Below.refl _ _, ?_, rfl⟩; (show rel.slot _ _ = _; simp only [rel.slot_lit, List.getD_cons_succ, List.getD_cons_zero]; (first | done | exact rfl)))); (simp only [rel.put_lit, List.set_cons_succ, List.set_cons_zero]))
  ((apply rel.walk_val; (focus (intro wq hq hf; (obtain ⟨d0, d1⟩ := ((B31).below hq (B31).lt).cells2); go_wp2; refine ⟨hq, Below.refl _ _, ?_, rfl⟩; (show rel.slot _ _ = _; simp only [rel.slot_lit, List.getD_cons_succ, List.getD_cons_zero]; (first | done | exact rfl)))); (simp only [rel.put_lit, List.set_cons_succ, List.set_cons_zero])))
  (apply rel.walk_val; (focus (intro wq hq hf; go_wp2_with (go_at_call 17; refine (lst.len_raw _ _ _).mono ?_; rintro e w'' ⟨rfl, hbb⟩); refine ⟨hq.trans (hbb.mono hq.size), hbb, ?_, rfl⟩; (show rel.slot _ _ = _; simp only [rel.slot_lit, List.getD_cons_succ, List.getD_cons_zero]; (first | done | exact rfl)))); (simp only [rel.put_lit, List.set_cons_succ, List.set_cons_zero]))
  (apply rel.walk_val; (focus (intro wq hq hf; go_wp2; refine ⟨hq, Below.refl _ _, ?_, rfl⟩; (show rel.slot _ _ = _; simp only [rel.slot_lit, List.getD_cons_succ, List.getD_cons_zero]; (first | done | exact rfl)))); (simp only [rel.put_lit, List.set_cons_succ, List.set_cons_zero]))
  (apply rel.walk_val; (focus (intro wq hq hf; go_wp2; refine ⟨hq, Below.refl _ _, ?_, rfl⟩; (show rel.slot _ _ = _; simp only [rel.slot_lit, List.getD_cons_succ, List.getD_cons_zero]; (first | done | exact rfl)))); (simp only [rel.put_lit, List.set_cons_succ, List.set_cons_zero]))
  (apply rel.walk_val; (focus (intro wq hq hf; go_wp2; refine ⟨hq, Below.refl _ _, ?_, rfl⟩; (show rel.slot _ _ = _; simp only [rel.slot_lit, List.getD_cons_succ, List.getD_cons_zero]; (first | done | exact rfl)))); (simp only [rel.put_lit, List.set_cons_succ, List.set_cons_zero]))
  (apply rel.walk_val; (focus (intro wq hq hf; go_wp2; refine ⟨hq, Below.refl _ _, ?_, rfl⟩; (show rel.slot _ _ = _; simp only [rel.slot_lit, List.getD_cons_succ, List.getD_cons_zero]; (first | done | exact rfl)))); (simp only [rel.put_lit, List.set_cons_succ, List.set_cons_zero]))
  (apply rel.walk_val; (focus (intro wq hq hf; go_wp2; refine ⟨hq, Below.refl _ _, ?_, rfl⟩; (show rel.slot _ _ = _; simp only [rel.slot_lit, List.getD_cons_succ, List.getD_cons_zero]; (first | done | exact rfl)))); (simp only [rel.put_lit, List.set_cons_succ, List.set_cons_zero]))
  (apply rel.walk_val; (focus (intro wq hq hf; (have eqt24 := (show t24.length = l2.length + l0.length by (simp only [← ht24.out]) <;> simp <;> omega)); go_wp2; refine ⟨hq, Below.refl _ _, ?_, rfl⟩; (show rel.slot _ _ = _; simp only [rel.slot_lit, List.getD_cons_succ, List.getD_cons_zero]; (first | done | exact rfl)))); (simp only [rel.put_lit, List.set_cons_succ, List.set_cons_zero]))
  (apply rel.walk_val; (focus (intro wq hq hf; go_wp2; refine ⟨hq, Below.refl _ _, ?_, rfl⟩; (show rel.slot _ _ = _; simp only [rel.slot_lit, List.getD_cons_succ, List.getD_cons_zero]; (first | done | exact rfl)))); (simp only [rel.put_lit, List.set_cons_succ, List.set_cons_zero]))
  (apply rel.walk_val; (focus (intro wq hq hf; go_wp2; refine ⟨hq, Below.refl _ _, ?_, rfl⟩; (show rel.slot _ _ = _; simp only [rel.slot_lit, List.getD_cons_succ, List.getD_cons_zero]; (first | done | exact rfl)))); (simp only [rel.put_lit, List.set_cons_succ, List.set_cons_zero]))
  ((apply rel.walk_val; (focus (intro wq hq hf; (obtain ⟨d0, d1⟩ := ((B46).below hq (B46).lt).cells2); go_wp2; refine ⟨hq, Below.refl _ _, ?_, rfl⟩; (show rel.slot _ _ = _; simp only [rel.slot_lit, List.getD_cons_succ, List.getD_cons_zero]; (first | done | exact rfl)))); (simp only [rel.put_lit, List.set_cons_succ, List.set_cons_zero])))
  (apply rel.walk_val; (focus (intro wq hq hf; go_wp2_with (go_at_call 17; refine (lst.len_raw _ _ _).mono ?_; rintro e w'' ⟨rfl, hbb⟩); refine ⟨hq.trans (hbb.mono hq.size), hbb, ?_, rfl⟩; (show rel.slot _ _ = _; simp only [rel.slot_lit, List.getD_cons_succ, List.getD_cons_zero]; (first | done | exact rfl)))); (simp only [rel.put_lit, List.set_cons_succ, List.set_cons_zero]))
  (apply rel.walk_val; (focus (intro wq hq hf; go_wp2; refine ⟨hq, Below.refl _ _, ?_, rfl⟩; (show rel.slot _ _ = _; simp only [rel.slot_lit, List.getD_cons_succ, List.getD_cons_zero]; (first | done | exact rfl)))); (simp only [rel.put_lit, List.set_cons_succ, List.set_cons_zero]))
  (apply rel.walk_val; (focus (intro wq hq hf; go_wp2; refine ⟨hq, Below.refl _ _, ?_, rfl⟩; (show rel.slot _ _ = _; simp only [rel.slot_lit, List.getD_cons_succ, List.getD_cons_zero]; (first | done | exact rfl)))); (simp only [rel.put_lit, List.set_cons_succ, List.set_cons_zero]))
  (apply rel.walk_val; (focus (intro wq hq hf; (have eqt42 := (show t42.length = l0.length by (simp only [← ht42.out]) <;> simp <;> omega)); go_wp2; refine ⟨hq, Below.refl _ _, ?_, rfl⟩; (show rel.slot _ _ = _; simp only [rel.slot_lit, List.getD_cons_succ, List.getD_cons_zero]; (first | done | exact rfl)))); (simp only [rel.put_lit, List.set_cons_succ, List.set_cons_zero]))
  (apply rel.walk_val; (focus (intro wq hq hf; go_wp2; refine ⟨hq, Below.refl _ _, ?_, rfl⟩; (show rel.slot _ _ = _; simp only [rel.slot_lit, List.getD_cons_succ, List.getD_cons_zero]; (first | done | exact rfl)))); (simp only [rel.put_lit, List.set_cons_succ, List.set_cons_zero]))
  (apply rel.walk_val; (focus (intro wq hq hf; go_wp2; refine ⟨hq, Below.refl _ _, ?_, rfl⟩; (show rel.slot _ _ = _; simp only [rel.slot_lit, List.getD_cons_succ, List.getD_cons_zero]; (first | done | exact rfl)))); (simp only [rel.put_lit, List.set_cons_succ, List.set_cons_zero]))
  ((apply rel.walk_val; (focus (intro wq hq hf; (obtain ⟨d0, d1⟩ := ((B39).below hq (B39).lt).cells2); go_wp2; refine ⟨hq, Below.refl _ _, ?_, rfl⟩; (show rel.slot _ _ = _; simp only [rel.slot_lit, List.getD_cons_succ, List.getD_cons_zero]; (first | done | exact rfl)))); (simp only [rel.put_lit, List.set_cons_succ, List.set_cons_zero])))
  (apply rel.walk_val; (focus (intro wq hq hf; go_wp2_with (go_at_call 17; refine (lst.len_raw _ _ _).mono ?_; rintro e w'' ⟨rfl, hbb⟩); refine ⟨hq.trans (hbb.mono hq.size), hbb, ?_, rfl⟩; (show rel.slot _ _ = _; simp only [rel.slot_lit, List.getD_cons_succ, List.getD_cons_zero]; (first | done | exact rfl)))); (simp only [rel.put_lit, List.set_cons_succ, List.set_cons_zero]))
  (apply rel.walk_val; (focus (intro wq hq hf; go_wp2; refine ⟨hq, Below.refl _ _, ?_, rfl⟩; (show rel.slot _ _ = _; simp only [rel.slot_lit, List.getD_cons_succ, List.getD_cons_zero]; (first | done | exact rfl)))); (simp only [rel.put_lit, List.set_cons_succ, List.set_cons_zero]))
  (apply rel.walk_val; (focus (intro wq hq hf; go_wp2; refine ⟨hq, Below.refl _ _, ?_, rfl⟩; (show rel.slot _ _ = _; simp only [rel.slot_lit, List.getD_cons_succ, List.getD_cons_zero]; (first | done | exact rfl)))); (simp only [rel.put_lit, List.set_cons_succ, List.set_cons_zero]))
  (apply rel.walk_val; (focus (intro wq hq hf; go_wp2; refine ⟨hq, Below.refl _ _, ?_, rfl⟩; (show rel.slot _ _ = _; simp only [rel.slot_lit, List.getD_cons_succ, List.getD_cons_zero]; (first | done | exact rfl)))); (simp only [rel.put_lit, List.set_cons_succ, List.set_cons_zero]))
  (apply rel.walk_val; (focus (intro wq hq hf; go_wp2; refine ⟨hq, Below.refl _ _, ?_, rfl⟩; (show rel.slot _ _ = _; simp only [rel.slot_lit, List.getD_cons_succ, List.getD_cons_zero]; (first | done | exact rfl)))); (simp only [rel.put_lit, List.set_cons_succ, List.set_cons_zero]))
  (apply rel.walk_val; (focus (intro wq hq hf; (have emx : (t35.length : Int) = max ((l0.length : Int) - 1) 0 := (by have e0 : t35.length = l0.length - 1 := (by rw [← ht35.out]; simp); omega)); go_wp2; refine ⟨hq, Below.refl _ _, ?_, rfl⟩; (show rel.slot _ _ = _; simp only [rel.slot_lit, List.getD_cons_succ, List.getD_cons_zero]; (first | done | exact rfl)))); (simp only [rel.put_lit, List.set_cons_succ, List.set_cons_zero]))
  (apply rel.walk_val; (focus (intro wq hq hf; go_wp2; refine ⟨hq, Below.refl _ _, ?_, rfl⟩; (show rel.slot _ _ = _; simp only [rel.slot_lit, List.getD_cons_succ, List.getD_cons_zero]; (first | done | exact rfl)))); (simp only [rel.put_lit, List.set_cons_succ, List.set_cons_zero]))
  (apply rel.walk_val; (focus (intro wq hq hf; go_wp2; refine ⟨hq, Below.refl _ _, ?_, rfl⟩; (show rel.slot _ _ = _; simp only [rel.slot_lit, List.getD_cons_succ, List.getD_cons_zero]; (first | done | exact rfl)))); (simp only [rel.put_lit, List.set_cons_succ, List.set_cons_zero]))
  refine rel.walk_nil ?_
  intro W58 kwW58 hF
  clear hF
  replace i0 := i0.on kwW58
  replace i2 := i2.on kwW58
  replace f11 := f11.on kwW58
  replace B13 := B13.on kwW58
  replace f18 := f18.on kwW58
  replace B20 := B20.on kwW58
  replace z25 := z25.on kwW58
  replace z29 := z29.on kwW58
  replace B31 := B31.on kwW58
  replace f32 := f32.on kwW58
  replace f37 := f37.on kwW58
  replace B39 := B39.on kwW58
  replace f44 := f44.on kwW58
  replace B46 := B46.on kwW58
  replace f53 := f53.on kwW58
  replace hb := hb.trans (kwW58.mono hb.size)
  refine hK57.out _ _ ?_
  refine wp_ret ?_
  go_ret
  exact ⟨rfl, hb⟩

end Go.Proofs.Ytkhnfkejmhhcjaa.listStays
