/- The walk of ListJoins. -/
import Derived.Test.YtkhnfkejmhhcjaaLstWalks
namespace Go.Proofs.Ytkhnfkejmhhcjaa.listJoins
open Go Go.RowKit
set_option linter.unusedVariables false

set_option maxHeartbeats 8000000 in
theorem walk (v0 : Value) (l0 : List Int) (v1 : Value) (l1 : List Int) (v2 : Value) (l2 : List Int) (w : World) (i0 : hp.IsInts w w.heap.size v0 l0) (i1 : hp.IsInts w w.heap.size v1 l1) (i2 : hp.IsInts w w.heap.size v2 l2) (hbd : l0.length + l1.length + l2.length ≤ 1048576)  :
    Calls Try.prog 5 #[v0, v1, v2] w fun e w' => e = .returned (.bool true) ∧ Below w.heap.size w w' := by
  have hb : Below w.heap.size w w := Below.refl _ _
  obtain ⟨a0, c0, he0, hr0⟩ := i0
  have i0 : hp.IsInts w w.heap.size (.slice a0 l0.length c0) l0 := ⟨a0, c0, rfl, hr0⟩
  subst he0
  clear hr0
  obtain ⟨a1, c1, he1, hr1⟩ := i1
  have i1 : hp.IsInts w w.heap.size (.slice a1 l1.length c1) l1 := ⟨a1, c1, rfl, hr1⟩
  subst he1
  clear hr1
  obtain ⟨a2, c2, he2, hr2⟩ := i2
  have i2 : hp.IsInts w w.heap.size (.slice a2 l2.length c2) l2 := ⟨a2, c2, rfl, hr2⟩
  subst he2
  clear hr2
  go_enter Try.func5, Try.ntmps5
  refine wp_seq_k fun K1 hK1 => ?_
  replace hK1 := Lib.hid hK1
  -- region 0 (low.go:118)
  apply rel.seq (C := fun w' => Below w.heap.size w w') (X := fun w w' => Below w.heap.size w w') (by kernel_rfl) (by kernel_rfl) (Below.refl _ _)
  (apply rel.walk_val; (focus (intro wq hq hf; go_wp2; refine ⟨hq, Below.refl _ _, ?_, rfl⟩; (show rel.slot _ _ = _; simp only [rel.slot_lit, List.getD_cons_succ, List.getD_cons_zero]; (first | done | exact rfl)))); (simp only [rel.put_lit, List.set_cons_succ, List.set_cons_zero]))
  refine rel.walk_nil ?_
  intro W2 kwW2 hF
  clear hF
  replace i0 := i0.on kwW2
  replace i1 := i1.on kwW2
  replace i2 := i2.on kwW2
  replace hb := hb.trans (kwW2.mono hb.size)
  refine hK1.out _ _ ?_
  refine wp_seq_k fun K3 hK3 => ?_
  replace hK3 := Lib.hid hK3
  -- region 1 (low.go:119)
  apply rel.seq (C := fun w' => Below W2.heap.size W2 w') (X := fun w w' => Below w.heap.size w w') (by kernel_rfl) (by kernel_rfl) (Below.refl _ _)
  (apply rel.walk_val; (focus (intro wq hq hf; go_wp2_with (go_at_call 12; refine (lst.listed_any _).mono ?_; rintro e w'' ⟨rfl, hbb⟩); refine ⟨hq.trans (hbb.mono hq.size), hbb, ?_, rfl⟩; (show rel.slot _ _ = _; simp only [rel.slot_lit, List.getD_cons_succ, List.getD_cons_zero]; (first | done | exact rfl)))); (simp only [rel.put_lit, List.set_cons_succ, List.set_cons_zero]))
  (apply rel.walk_val; (focus (intro wq hq hf; go_wp2; refine ⟨hq, Below.refl _ _, ?_, rfl⟩; (show rel.slot _ _ = _; simp only [rel.slot_lit, List.getD_cons_succ, List.getD_cons_zero]; (first | done | exact rfl)))); (simp only [rel.put_lit, List.set_cons_succ, List.set_cons_zero]))
  refine rel.walk_nil ?_
  intro W4 kwW4 hF
  clear hF
  replace i0 := i0.on kwW4
  replace i1 := i1.on kwW4
  replace i2 := i2.on kwW4
  replace hb := hb.trans (kwW4.mono hb.size)
  refine hK3.out _ _ ?_
  refine wp_seq_k fun K5 hK5 => ?_
  replace hK5 := Lib.hid hK5
  refine wp_seq_k fun K6 hK6 => ?_
  replace hK6 := Lib.hid hK6
  -- region 2 (low.go:120)
  apply rel.seq (C := fun w' => Below W4.heap.size W4 w') (X := fun w w' => Below w.heap.size w w') (by kernel_rfl) (by kernel_rfl) (Below.refl _ _)
  (apply rel.walk_val; (focus (intro wq hq hf; go_wp2; refine ⟨hq, Below.refl _ _, ?_, rfl⟩; (show rel.slot _ _ = _; simp only [rel.slot_lit, List.getD_cons_succ, List.getD_cons_zero]; (first | done | exact rfl)))); (simp only [rel.put_lit, List.set_cons_succ, List.set_cons_zero]))
  (apply rel.walk_val; (focus (intro wq hq hf; go_wp2; refine ⟨hq, Below.refl _ _, ?_, rfl⟩; (show rel.slot _ _ = _; simp only [rel.slot_lit, List.getD_cons_succ, List.getD_cons_zero]; (first | done | exact rfl)))); (simp only [rel.put_lit, List.set_cons_succ, List.set_cons_zero]))
  refine rel.walk_nil ?_
  intro W7 kwW7 hF
  clear hF
  replace i0 := i0.on kwW7
  replace i1 := i1.on kwW7
  replace i2 := i2.on kwW7
  replace hb := hb.trans (kwW7.mono hb.size)
  refine hK6.out _ _ ?_
  refine wp_cond_false rfl ?_
  refine wp_skip ?_
  refine hK5.out _ _ ?_
  refine wp_seq_k fun K8 hK8 => ?_
  replace hK8 := Lib.hid hK8
  -- region 4 (low.go:123)
  apply rel.seq_tail (hn := by decide) (C := fun w' => Below W7.heap.size W7 w') (X := fun w w' => Below w.heap.size w w') 2 (by kernel_rfl) (by kernel_rfl) (Below.refl _ _)
  (apply rel.walk_val; (focus (intro wq hq hf; go_wp2; refine ⟨hq, Below.refl _ _, ?_, rfl⟩; (show rel.slot _ _ = _; simp only [rel.slot_lit, List.getD_cons_succ, List.getD_cons_zero]; (first | done | exact rfl)))); (simp only [rel.put_lit, List.set_cons_succ, List.set_cons_zero]))
  (apply rel.walk_rel (fun u w' => lst.IsList w' w'.heap.size u (l0)) ⟨_, rfl⟩ (fun u w1 w2 h1 h2 => h2.on h1); (focus (intro wq hq hf; go_wp2_with (go_at_call 13; refine (lst.of_any _ l0 _ (i0.on hq) (by first | omega | simp)).mono ?_; rintro e w'' ⟨⟨u, rfl, hu⟩, hbb⟩); refine ⟨hq.trans (hbb.mono hq.size), hbb, ?_, rfl⟩; (show lst.IsList _ _ (rel.slot _ _) _; simp only [rel.slot_lit, List.getD_cons_succ, List.getD_cons_zero]; exact hu))); (intro u wu _ hu; obtain ⟨p9, rfl, -, -⟩ := hu; (simp only [rel.put_lit, List.set_cons_succ, List.set_cons_zero])))
  refine rel.walk_nil ?_
  intro W10 kwW10 hF
  have f11 : lst.IsList W10 W10.heap.size (lst.lv p9 l0.length) l0 := rel.fact hF 0 rfl
  clear hF
  replace i0 := i0.on kwW10
  replace i1 := i1.on kwW10
  replace i2 := i2.on kwW10
  replace hb := hb.trans (kwW10.mono hb.size)
  simp only [List.drop_succ_cons, List.drop_zero]
  go_wp2
  obtain ⟨W12, hW12⟩ : ∃ x, (W10.alloc (.cells #[.pointer p9, .int .i64 l0.length] 26)) = x := ⟨_, rfl⟩
  have B13 : hp.Blk W12 (W10.heap.size) 26 [.pointer p9, .int .i64 l0.length] := by rw [← hW12]; (first | exact hp.Blk.newAt (by simp) | exact (hp.Blk.newAt (by simp)).alloc _ | exact ((hp.Blk.newAt (by simp)).alloc _).alloc _ | exact (((hp.Blk.newAt (by simp)).alloc _).alloc _).alloc _ | exact ((((hp.Blk.newAt (by simp)).alloc _).alloc _).alloc _).alloc _ | exact (((((hp.Blk.newAt (by simp)).alloc _).alloc _).alloc _).alloc _).alloc _)
  have kwW12 : Below W10.heap.size W10 W12 := by rw [← hW12]; ((repeat' (first | with_reducible exact Below.refl _ _ | with_reducible apply Below.setCell | with_reducible apply below_drewN | with_reducible apply Below.drew | with_reducible apply Below.alloc | with_reducible refine Below.trans ?_ (Below.mono (by assumption) ?_))) <;> (first | (simp; done) | (simp; omega) | omega))
  rw [hW12]
  clear hW12
  replace i0 := i0.on kwW12
  replace i1 := i1.on kwW12
  replace i2 := i2.on kwW12
  replace f11 := f11.on kwW12
  replace hb := hb.trans (kwW12.mono hb.size)
  refine hK8.out _ _ ?_
  refine wp_seq_k fun K14 hK14 => ?_
  replace hK14 := Lib.hid hK14
  -- region 5 (low.go:124)
  apply rel.seq_tail (hn := by decide) (C := fun w' => Below W12.heap.size W12 w') (X := fun w w' => Below w.heap.size w w') 2 (by kernel_rfl) (by kernel_rfl) (Below.refl _ _)
  (apply rel.walk_val; (focus (intro wq hq hf; go_wp2; refine ⟨hq, Below.refl _ _, ?_, rfl⟩; (show rel.slot _ _ = _; simp only [rel.slot_lit, List.getD_cons_succ, List.getD_cons_zero]; (first | done | exact rfl)))); (simp only [rel.put_lit, List.set_cons_succ, List.set_cons_zero]))
  (apply rel.walk_rel (fun u w' => lst.IsList w' w'.heap.size u (l1)) ⟨_, rfl⟩ (fun u w1 w2 h1 h2 => h2.on h1); (focus (intro wq hq hf; go_wp2_with (go_at_call 13; refine (lst.of_any _ l1 _ (i1.on hq) (by first | omega | simp)).mono ?_; rintro e w'' ⟨⟨u, rfl, hu⟩, hbb⟩); refine ⟨hq.trans (hbb.mono hq.size), hbb, ?_, rfl⟩; (show lst.IsList _ _ (rel.slot _ _) _; simp only [rel.slot_lit, List.getD_cons_succ, List.getD_cons_zero]; exact hu))); (intro u wu _ hu; obtain ⟨p15, rfl, -, -⟩ := hu; (simp only [rel.put_lit, List.set_cons_succ, List.set_cons_zero])))
  refine rel.walk_nil ?_
  intro W16 kwW16 hF
  have f17 : lst.IsList W16 W16.heap.size (lst.lv p15 l1.length) l1 := rel.fact hF 0 rfl
  clear hF
  replace i0 := i0.on kwW16
  replace i1 := i1.on kwW16
  replace i2 := i2.on kwW16
  replace f11 := f11.on kwW16
  replace B13 := B13.on kwW16
  replace hb := hb.trans (kwW16.mono hb.size)
  simp only [List.drop_succ_cons, List.drop_zero]
  go_wp2
  obtain ⟨W18, hW18⟩ : ∃ x, (W16.alloc (.cells #[.pointer p15, .int .i64 l1.length] 26)) = x := ⟨_, rfl⟩
  have B19 : hp.Blk W18 (W16.heap.size) 26 [.pointer p15, .int .i64 l1.length] := by rw [← hW18]; (first | exact hp.Blk.newAt (by simp) | exact (hp.Blk.newAt (by simp)).alloc _ | exact ((hp.Blk.newAt (by simp)).alloc _).alloc _ | exact (((hp.Blk.newAt (by simp)).alloc _).alloc _).alloc _ | exact ((((hp.Blk.newAt (by simp)).alloc _).alloc _).alloc _).alloc _ | exact (((((hp.Blk.newAt (by simp)).alloc _).alloc _).alloc _).alloc _).alloc _)
  have kwW18 : Below W16.heap.size W16 W18 := by rw [← hW18]; ((repeat' (first | with_reducible exact Below.refl _ _ | with_reducible apply Below.setCell | with_reducible apply below_drewN | with_reducible apply Below.drew | with_reducible apply Below.alloc | with_reducible refine Below.trans ?_ (Below.mono (by assumption) ?_))) <;> (first | (simp; done) | (simp; omega) | omega))
  rw [hW18]
  clear hW18
  replace i0 := i0.on kwW18
  replace i1 := i1.on kwW18
  replace i2 := i2.on kwW18
  replace f11 := f11.on kwW18
  replace B13 := B13.on kwW18
  replace f17 := f17.on kwW18
  replace hb := hb.trans (kwW18.mono hb.size)
  refine hK14.out _ _ ?_
  refine wp_seq_k fun K20 hK20 => ?_
  replace hK20 := Lib.hid hK20
  -- region 6 (low.go:125)
  apply rel.seq_tail (hn := by decide) (C := fun w' => Below W18.heap.size W18 w') (X := fun w w' => Below w.heap.size w w') 2 (by kernel_rfl) (by kernel_rfl) (Below.refl _ _)
  (apply rel.walk_val; (focus (intro wq hq hf; go_wp2; refine ⟨hq, Below.refl _ _, ?_, rfl⟩; (show rel.slot _ _ = _; simp only [rel.slot_lit, List.getD_cons_succ, List.getD_cons_zero]; (first | done | exact rfl)))); (simp only [rel.put_lit, List.set_cons_succ, List.set_cons_zero]))
  (apply rel.walk_rel (fun u w' => lst.IsList w' w'.heap.size u (l2)) ⟨_, rfl⟩ (fun u w1 w2 h1 h2 => h2.on h1); (focus (intro wq hq hf; go_wp2_with (go_at_call 13; refine (lst.of_any _ l2 _ (i2.on hq) (by first | omega | simp)).mono ?_; rintro e w'' ⟨⟨u, rfl, hu⟩, hbb⟩); refine ⟨hq.trans (hbb.mono hq.size), hbb, ?_, rfl⟩; (show lst.IsList _ _ (rel.slot _ _) _; simp only [rel.slot_lit, List.getD_cons_succ, List.getD_cons_zero]; exact hu))); (intro u wu _ hu; obtain ⟨p21, rfl, -, -⟩ := hu; (simp only [rel.put_lit, List.set_cons_succ, List.set_cons_zero])))
  refine rel.walk_nil ?_
  intro W22 kwW22 hF
  have f23 : lst.IsList W22 W22.heap.size (lst.lv p21 l2.length) l2 := rel.fact hF 0 rfl
  clear hF
  replace i0 := i0.on kwW22
  replace i1 := i1.on kwW22
  replace i2 := i2.on kwW22
  replace f11 := f11.on kwW22
  replace B13 := B13.on kwW22
  replace f17 := f17.on kwW22
  replace B19 := B19.on kwW22
  replace hb := hb.trans (kwW22.mono hb.size)
  simp only [List.drop_succ_cons, List.drop_zero]
  go_wp2
  obtain ⟨W24, hW24⟩ : ∃ x, (W22.alloc (.cells #[.pointer p21, .int .i64 l2.length] 26)) = x := ⟨_, rfl⟩
  have B25 : hp.Blk W24 (W22.heap.size) 26 [.pointer p21, .int .i64 l2.length] := by rw [← hW24]; (first | exact hp.Blk.newAt (by simp) | exact (hp.Blk.newAt (by simp)).alloc _ | exact ((hp.Blk.newAt (by simp)).alloc _).alloc _ | exact (((hp.Blk.newAt (by simp)).alloc _).alloc _).alloc _ | exact ((((hp.Blk.newAt (by simp)).alloc _).alloc _).alloc _).alloc _ | exact (((((hp.Blk.newAt (by simp)).alloc _).alloc _).alloc _).alloc _).alloc _)
  have kwW24 : Below W22.heap.size W22 W24 := by rw [← hW24]; ((repeat' (first | with_reducible exact Below.refl _ _ | with_reducible apply Below.setCell | with_reducible apply below_drewN | with_reducible apply Below.drew | with_reducible apply Below.alloc | with_reducible refine Below.trans ?_ (Below.mono (by assumption) ?_))) <;> (first | (simp; done) | (simp; omega) | omega))
  rw [hW24]
  clear hW24
  replace i0 := i0.on kwW24
  replace i1 := i1.on kwW24
  replace i2 := i2.on kwW24
  replace f11 := f11.on kwW24
  replace B13 := B13.on kwW24
  replace f17 := f17.on kwW24
  replace B19 := B19.on kwW24
  replace f23 := f23.on kwW24
  replace hb := hb.trans (kwW24.mono hb.size)
  refine hK20.out _ _ ?_
  refine wp_seq_k fun K26 hK26 => ?_
  replace hK26 := Lib.hid hK26
  -- region 7 (low.go:126)
  apply rel.seq_tail (hn := by decide) (C := fun w' => Below W24.heap.size W24 w') (X := fun w w' => Below w.heap.size w w') 0 (by kernel_rfl) (by kernel_rfl) (Below.refl _ _)
  refine rel.walk_nil ?_
  intro W27 kwW27 hF
  clear hF
  replace i0 := i0.on kwW27
  replace i1 := i1.on kwW27
  replace i2 := i2.on kwW27
  replace f11 := f11.on kwW27
  replace B13 := B13.on kwW27
  replace f17 := f17.on kwW27
  replace B19 := B19.on kwW27
  replace f23 := f23.on kwW27
  replace B25 := B25.on kwW27
  replace hb := hb.trans (kwW27.mono hb.size)
  simp only [List.drop_zero]
  go_wp2
  have z29 := lst.IsList.nil W27 W27.heap.size
  obtain ⟨W28, hW28⟩ : ∃ x, (W27.alloc (.cells #[.pointer none, .int .i64 0] 26)) = x := ⟨_, rfl⟩
  have B30 : hp.Blk W28 (W27.heap.size) 26 [.pointer none, .int .i64 0] := by rw [← hW28]; (first | exact hp.Blk.newAt (by simp) | exact (hp.Blk.newAt (by simp)).alloc _ | exact ((hp.Blk.newAt (by simp)).alloc _).alloc _ | exact (((hp.Blk.newAt (by simp)).alloc _).alloc _).alloc _ | exact ((((hp.Blk.newAt (by simp)).alloc _).alloc _).alloc _).alloc _ | exact (((((hp.Blk.newAt (by simp)).alloc _).alloc _).alloc _).alloc _).alloc _)
  have kwW28 : Below W27.heap.size W27 W28 := by rw [← hW28]; ((repeat' (first | with_reducible exact Below.refl _ _ | with_reducible apply Below.setCell | with_reducible apply below_drewN | with_reducible apply Below.drew | with_reducible apply Below.alloc | with_reducible refine Below.trans ?_ (Below.mono (by assumption) ?_))) <;> (first | (simp; done) | (simp; omega) | omega))
  rw [hW28]
  clear hW28
  replace i0 := i0.on kwW28
  replace i1 := i1.on kwW28
  replace i2 := i2.on kwW28
  replace f11 := f11.on kwW28
  replace B13 := B13.on kwW28
  replace f17 := f17.on kwW28
  replace B19 := B19.on kwW28
  replace f23 := f23.on kwW28
  replace B25 := B25.on kwW28
  replace z29 := z29.on kwW28
  replace hb := hb.trans (kwW28.mono hb.size)
  refine hK26.out _ _ ?_
  refine wp_seq_k fun K31 hK31 => ?_
  replace hK31 := Lib.hid hK31
  obtain ⟨t33, ht33, bt33⟩ := rel.name_list (l0 ++ l1) 2097152 (by simp; omega)
  obtain ⟨t35, ht35, bt35⟩ := rel.name_list (t33 ++ l2) 3145728 (by simp; omega)
  obtain ⟨t38, ht38, bt38⟩ := rel.name_list (l1 ++ l2) 2097152 (by simp; omega)
  obtain ⟨t40, ht40, bt40⟩ := rel.name_list (l0 ++ t38) 3145728 (by simp; omega)
  have he42 : t35 = t40 := (by (simp only [← ht40.out, ← ht38.out, ← ht35.out, ← ht33.out]) <;> simp)
  replace he42 := Lib.hid he42
  -- region 8 (low.go:127)
  apply rel.region (C := fun w' => Below W28.heap.size W28 w') (X := fun w w' => Below w.heap.size w w') (by kernel_rfl) (by kernel_rfl) (by kernel_rfl) ((Below.refl _ _).drew)
  ((apply rel.walk_val; (focus (intro wq hq hf; (obtain ⟨d0, d1⟩ := ((B13).below hq (B13).lt).cells2); go_wp2; refine ⟨hq, Below.refl _ _, ?_, rfl⟩; (show rel.slot _ _ = _; simp only [rel.slot_lit, List.getD_cons_succ, List.getD_cons_zero]; (first | done | exact rfl)))); (simp only [rel.put_lit, List.set_cons_succ, List.set_cons_zero])))
  ((apply rel.walk_val; (focus (intro wq hq hf; (obtain ⟨d0, d1⟩ := ((B19).below hq (B19).lt).cells2); go_wp2; refine ⟨hq, Below.refl _ _, ?_, rfl⟩; (show rel.slot _ _ = _; simp only [rel.slot_lit, List.getD_cons_succ, List.getD_cons_zero]; (first | done | exact rfl)))); (simp only [rel.put_lit, List.set_cons_succ, List.set_cons_zero])))
  (apply rel.walk_rel (fun u w' => lst.IsList w' w'.heap.size u (t33)) ⟨_, rfl⟩ (fun u w1 w2 h1 h2 => h2.on h1); (focus (intro wq hq hf; go_wp2_with (go_at_call 21; refine (lst.join_to ht33.out (f11.on hq) (f17.on hq) (by first | omega | simp) (by first | omega | simp)).mono ?_; rintro e w'' ⟨⟨u, rfl, hu⟩, hbb⟩); refine ⟨hq.trans (hbb.mono hq.size), hbb, ?_, rfl⟩; (show lst.IsList _ _ (rel.slot _ _) _; simp only [rel.slot_lit, List.getD_cons_succ, List.getD_cons_zero]; exact hu))); (intro u wu _ hu; obtain ⟨p32, rfl, -, -⟩ := hu; (simp only [rel.put_lit, List.set_cons_succ, List.set_cons_zero])))
  ((apply rel.walk_val; (focus (intro wq hq hf; (obtain ⟨d0, d1⟩ := ((B25).below hq (B25).lt).cells2); go_wp2; refine ⟨hq, Below.refl _ _, ?_, rfl⟩; (show rel.slot _ _ = _; simp only [rel.slot_lit, List.getD_cons_succ, List.getD_cons_zero]; (first | done | exact rfl)))); (simp only [rel.put_lit, List.set_cons_succ, List.set_cons_zero])))
  (apply rel.walk_rel (fun u w' => lst.IsList w' w'.heap.size u (t35)) ⟨_, rfl⟩ (fun u w1 w2 h1 h2 => h2.on h1); (focus (intro wq hq hf; go_wp2_with (go_at_call 21; refine (lst.join_to ht35.out (hf.get 0 rfl rfl) (f23.on hq) (by first | omega | simp) (by first | omega | simp)).mono ?_; rintro e w'' ⟨⟨u, rfl, hu⟩, hbb⟩); refine ⟨hq.trans (hbb.mono hq.size), hbb, ?_, rfl⟩; (show lst.IsList _ _ (rel.slot _ _) _; simp only [rel.slot_lit, List.getD_cons_succ, List.getD_cons_zero]; exact hu))); (intro u wu _ hu; obtain ⟨p34, rfl, -, -⟩ := hu; (simp only [rel.put_lit, List.set_cons_succ, List.set_cons_zero])))
  (apply rel.walk_rel (fun u w' => hp.IsInts w' w'.heap.size u (t35)) ⟨_, rfl⟩ (fun u w1 w2 h1 h2 => h2.on h1); (focus (intro wq hq hf; go_wp2_with (go_at_call 15; refine (lst.ints_any _ t35 _ (hf.get 0 rfl rfl) (by first | omega | simp)).mono ?_; rintro e w'' ⟨⟨u, rfl, hu⟩, hbb⟩); refine ⟨hq.trans (hbb.mono hq.size), hbb, ?_, rfl⟩; (show hp.IsInts _ _ (rel.slot _ _) _; simp only [rel.slot_lit, List.getD_cons_succ, List.getD_cons_zero]; exact hu))); (intro u wu _ hu; obtain ⟨av36, cv36, rfl, -⟩ := hu; (simp only [rel.put_lit, List.set_cons_succ, List.set_cons_zero])))
  ((apply rel.walk_val; (focus (intro wq hq hf; (obtain ⟨d0, d1⟩ := ((B13).below hq (B13).lt).cells2); go_wp2; refine ⟨hq, Below.refl _ _, ?_, rfl⟩; (show rel.slot _ _ = _; simp only [rel.slot_lit, List.getD_cons_succ, List.getD_cons_zero]; (first | done | exact rfl)))); (simp only [rel.put_lit, List.set_cons_succ, List.set_cons_zero])))
  ((apply rel.walk_val; (focus (intro wq hq hf; (obtain ⟨d0, d1⟩ := ((B19).below hq (B19).lt).cells2); go_wp2; refine ⟨hq, Below.refl _ _, ?_, rfl⟩; (show rel.slot _ _ = _; simp only [rel.slot_lit, List.getD_cons_succ, List.getD_cons_zero]; (first | done | exact rfl)))); (simp only [rel.put_lit, List.set_cons_succ, List.set_cons_zero])))
  ((apply rel.walk_val; (focus (intro wq hq hf; (obtain ⟨d0, d1⟩ := ((B25).below hq (B25).lt).cells2); go_wp2; refine ⟨hq, Below.refl _ _, ?_, rfl⟩; (show rel.slot _ _ = _; simp only [rel.slot_lit, List.getD_cons_succ, List.getD_cons_zero]; (first | done | exact rfl)))); (simp only [rel.put_lit, List.set_cons_succ, List.set_cons_zero])))
  (apply rel.walk_rel (fun u w' => lst.IsList w' w'.heap.size u (t38)) ⟨_, rfl⟩ (fun u w1 w2 h1 h2 => h2.on h1); (focus (intro wq hq hf; go_wp2_with (go_at_call 21; refine (lst.join_to ht38.out (f17.on hq) (f23.on hq) (by first | omega | simp) (by first | omega | simp)).mono ?_; rintro e w'' ⟨⟨u, rfl, hu⟩, hbb⟩); refine ⟨hq.trans (hbb.mono hq.size), hbb, ?_, rfl⟩; (show lst.IsList _ _ (rel.slot _ _) _; simp only [rel.slot_lit, List.getD_cons_succ, List.getD_cons_zero]; exact hu))); (intro u wu _ hu; obtain ⟨p37, rfl, -, -⟩ := hu; (simp only [rel.put_lit, List.set_cons_succ, List.set_cons_zero])))
  (apply rel.walk_rel (fun u w' => lst.IsList w' w'.heap.size u (t40)) ⟨_, rfl⟩ (fun u w1 w2 h1 h2 => h2.on h1); (focus (intro wq hq hf; go_wp2_with (go_at_call 21; refine (lst.join_to ht40.out (f11.on hq) (hf.get 0 rfl rfl) (by first | omega | simp) (by first | omega | simp)).mono ?_; rintro e w'' ⟨⟨u, rfl, hu⟩, hbb⟩); refine ⟨hq.trans (hbb.mono hq.size), hbb, ?_, rfl⟩; (show lst.IsList _ _ (rel.slot _ _) _; simp only [rel.slot_lit, List.getD_cons_succ, List.getD_cons_zero]; exact hu))); (intro u wu _ hu; obtain ⟨p39, rfl, -, -⟩ := hu; (simp only [rel.put_lit, List.set_cons_succ, List.set_cons_zero])))
  (apply rel.walk_rel (fun u w' => hp.IsInts w' w'.heap.size u (t40)) ⟨_, rfl⟩ (fun u w1 w2 h1 h2 => h2.on h1); (focus (intro wq hq hf; go_wp2_with (go_at_call 15; refine (lst.ints_any _ t40 _ (hf.get 0 rfl rfl) (by first | omega | simp)).mono ?_; rintro e w'' ⟨⟨u, rfl, hu⟩, hbb⟩); refine ⟨hq.trans (hbb.mono hq.size), hbb, ?_, rfl⟩; (show hp.IsInts _ _ (rel.slot _ _) _; simp only [rel.slot_lit, List.getD_cons_succ, List.getD_cons_zero]; exact hu))); (intro u wu _ hu; obtain ⟨av41, cv41, rfl, -⟩ := hu; (simp only [rel.put_lit, List.set_cons_succ, List.set_cons_zero])))
  (apply rel.walk_val; (focus (intro wq hq hf; go_wp2_with (go_at_call 14; refine (same.ints_eq he42.out (hf.get 3 rfl rfl) (hf.get 0 rfl rfl)).mono ?_; rintro e w'' ⟨rfl, hbb⟩); refine ⟨hq.trans (hbb.mono hq.size), hbb, ?_, rfl⟩; (show rel.slot _ _ = _; simp only [rel.slot_lit, List.getD_cons_succ, List.getD_cons_zero]; (first | done | exact rfl)))); (simp only [rel.put_lit, List.set_cons_succ, List.set_cons_zero]))
  (apply rel.walk_val; (focus (intro wq hq hf; go_wp2; refine ⟨hq, Below.refl _ _, ?_, rfl⟩; (show rel.slot _ _ = _; simp only [rel.slot_lit, List.getD_cons_succ, List.getD_cons_zero]; (first | done | exact rfl)))); (simp only [rel.put_lit, List.set_cons_succ, List.set_cons_zero]))
  refine rel.walk_nil ?_
  intro W43 kwW43 hF
  clear hF
  replace i0 := i0.on kwW43
  replace i1 := i1.on kwW43
  replace i2 := i2.on kwW43
  replace f11 := f11.on kwW43
  replace B13 := B13.on kwW43
  replace f17 := f17.on kwW43
  replace B19 := B19.on kwW43
  replace f23 := f23.on kwW43
  replace B25 := B25.on kwW43
  replace z29 := z29.on kwW43
  replace B30 := B30.on kwW43
  replace hb := hb.trans (kwW43.mono hb.size)
  refine hK31.out _ _ ?_
  refine wp_seq_k fun K44 hK44 => ?_
  replace hK44 := Lib.hid hK44
  obtain ⟨t46, ht46, bt46⟩ := rel.name_list (l0 ++ ([] : List Int)) 1048576 (by simp; omega)
  have he48 : t46 = l0 := (by (simp only [← ht46.out]) <;> simp)
  replace he48 := Lib.hid he48
  -- region 9 (low.go:128)
  apply rel.seq (C := fun w' => Below W43.heap.size W43 w') (X := fun w w' => Below w.heap.size w w') (by kernel_rfl) (by kernel_rfl) (Below.refl _ _)
  ((apply rel.walk_val; (focus (intro wq hq hf; (obtain ⟨d0, d1⟩ := ((B13).below hq (B13).lt).cells2); go_wp2; refine ⟨hq, Below.refl _ _, ?_, rfl⟩; (show rel.slot _ _ = _; simp only [rel.slot_lit, List.getD_cons_succ, List.getD_cons_zero]; (first | done | exact rfl)))); (simp only [rel.put_lit, List.set_cons_succ, List.set_cons_zero])))
  ((apply rel.walk_val; (focus (intro wq hq hf; (obtain ⟨d0, d1⟩ := ((B30).below hq (B30).lt).cells2); go_wp2; refine ⟨hq, Below.refl _ _, ?_, rfl⟩; (show rel.slot _ _ = _; simp only [rel.slot_lit, List.getD_cons_succ, List.getD_cons_zero]; (first | done | exact rfl)))); (simp only [rel.put_lit, List.set_cons_succ, List.set_cons_zero])))
  (apply rel.walk_rel (fun u w' => lst.IsList w' w'.heap.size u (t46)) ⟨_, rfl⟩ (fun u w1 w2 h1 h2 => h2.on h1); (focus (intro wq hq hf; go_wp2_with (go_at_call 21; refine (lst.join_to ht46.out (f11.on hq) (z29.on hq) (by first | omega | simp) (by first | omega | simp)).mono ?_; rintro e w'' ⟨⟨u, rfl, hu⟩, hbb⟩); refine ⟨hq.trans (hbb.mono hq.size), hbb, ?_, rfl⟩; (show lst.IsList _ _ (rel.slot _ _) _; simp only [rel.slot_lit, List.getD_cons_succ, List.getD_cons_zero]; exact hu))); (intro u wu _ hu; obtain ⟨p45, rfl, -, -⟩ := hu; (simp only [rel.put_lit, List.set_cons_succ, List.set_cons_zero])))
  (apply rel.walk_rel (fun u w' => hp.IsInts w' w'.heap.size u (t46)) ⟨_, rfl⟩ (fun u w1 w2 h1 h2 => h2.on h1); (focus (intro wq hq hf; go_wp2_with (go_at_call 15; refine (lst.ints_any _ t46 _ (hf.get 0 rfl rfl) (by first | omega | simp)).mono ?_; rintro e w'' ⟨⟨u, rfl, hu⟩, hbb⟩); refine ⟨hq.trans (hbb.mono hq.size), hbb, ?_, rfl⟩; (show hp.IsInts _ _ (rel.slot _ _) _; simp only [rel.slot_lit, List.getD_cons_succ, List.getD_cons_zero]; exact hu))); (intro u wu _ hu; obtain ⟨av47, cv47, rfl, -⟩ := hu; (simp only [rel.put_lit, List.set_cons_succ, List.set_cons_zero])))
  (apply rel.walk_val; (focus (intro wq hq hf; go_wp2; refine ⟨hq, Below.refl _ _, ?_, rfl⟩; (show rel.slot _ _ = _; simp only [rel.slot_lit, List.getD_cons_succ, List.getD_cons_zero]; (first | done | exact rfl)))); (simp only [rel.put_lit, List.set_cons_succ, List.set_cons_zero]))
  (apply rel.walk_val; (focus (intro wq hq hf; go_wp2_with (go_at_call 14; refine (same.ints_eq he48.out (hf.get 0 rfl rfl) (i0.on hq)).mono ?_; rintro e w'' ⟨rfl, hbb⟩); refine ⟨hq.trans (hbb.mono hq.size), hbb, ?_, rfl⟩; (show rel.slot _ _ = _; simp only [rel.slot_lit, List.getD_cons_succ, List.getD_cons_zero]; (first | done | exact rfl)))); (simp only [rel.put_lit, List.set_cons_succ, List.set_cons_zero]))
  (apply rel.walk_val; (focus (intro wq hq hf; go_wp2; refine ⟨hq, Below.refl _ _, ?_, rfl⟩; (show rel.slot _ _ = _; simp only [rel.slot_lit, List.getD_cons_succ, List.getD_cons_zero]; (first | done | exact rfl)))); (simp only [rel.put_lit, List.set_cons_succ, List.set_cons_zero]))
  refine rel.walk_nil ?_
  intro W49 kwW49 hF
  clear hF
  replace i0 := i0.on kwW49
  replace i1 := i1.on kwW49
  replace i2 := i2.on kwW49
  replace f11 := f11.on kwW49
  replace B13 := B13.on kwW49
  replace f17 := f17.on kwW49
  replace B19 := B19.on kwW49
  replace f23 := f23.on kwW49
  replace B25 := B25.on kwW49
  replace z29 := z29.on kwW49
  replace B30 := B30.on kwW49
  replace hb := hb.trans (kwW49.mono hb.size)
  refine hK44.out _ _ ?_
  refine wp_seq_k fun K50 hK50 => ?_
  replace hK50 := Lib.hid hK50
  obtain ⟨t52, ht52, bt52⟩ := rel.name_list (([] : List Int) ++ l0) 1048576 (by simp; omega)
  have he54 : t52 = l0 := (by (simp only [← ht52.out]) <;> simp)
  replace he54 := Lib.hid he54
  -- region 10 (low.go:129)
  apply rel.seq (C := fun w' => Below W49.heap.size W49 w') (X := fun w w' => Below w.heap.size w w') (by kernel_rfl) (by kernel_rfl) (Below.refl _ _)
  ((apply rel.walk_val; (focus (intro wq hq hf; (obtain ⟨d0, d1⟩ := ((B30).below hq (B30).lt).cells2); go_wp2; refine ⟨hq, Below.refl _ _, ?_, rfl⟩; (show rel.slot _ _ = _; simp only [rel.slot_lit, List.getD_cons_succ, List.getD_cons_zero]; (first | done | exact rfl)))); (simp only [rel.put_lit, List.set_cons_succ, List.set_cons_zero])))
  ((apply rel.walk_val; (focus (intro wq hq hf; (obtain ⟨d0, d1⟩ := ((B13).below hq (B13).lt).cells2); go_wp2; refine ⟨hq, Below.refl _ _, ?_, rfl⟩; (show rel.slot _ _ = _; simp only [rel.slot_lit, List.getD_cons_succ, List.getD_cons_zero]; (first | done | exact rfl)))); (simp only [rel.put_lit, List.set_cons_succ, List.set_cons_zero])))
  (apply rel.walk_rel (fun u w' => lst.IsList w' w'.heap.size u (t52)) ⟨_, rfl⟩ (fun u w1 w2 h1 h2 => h2.on h1); (focus (intro wq hq hf; go_wp2_with (go_at_call 21; refine (lst.join_to ht52.out (z29.on hq) (f11.on hq) (by first | omega | simp) (by first | omega | simp)).mono ?_; rintro e w'' ⟨⟨u, rfl, hu⟩, hbb⟩); refine ⟨hq.trans (hbb.mono hq.size), hbb, ?_, rfl⟩; (show lst.IsList _ _ (rel.slot _ _) _; simp only [rel.slot_lit, List.getD_cons_succ, List.getD_cons_zero]; exact hu))); (intro u wu _ hu; obtain ⟨p51, rfl, -, -⟩ := hu; (simp only [rel.put_lit, List.set_cons_succ, List.set_cons_zero])))
  (apply rel.walk_rel (fun u w' => hp.IsInts w' w'.heap.size u (t52)) ⟨_, rfl⟩ (fun u w1 w2 h1 h2 => h2.on h1); (focus (intro wq hq hf; go_wp2_with (go_at_call 15; refine (lst.ints_any _ t52 _ (hf.get 0 rfl rfl) (by first | omega | simp)).mono ?_; rintro e w'' ⟨⟨u, rfl, hu⟩, hbb⟩); refine ⟨hq.trans (hbb.mono hq.size), hbb, ?_, rfl⟩; (show hp.IsInts _ _ (rel.slot _ _) _; simp only [rel.slot_lit, List.getD_cons_succ, List.getD_cons_zero]; exact hu))); (intro u wu _ hu; obtain ⟨av53, cv53, rfl, -⟩ := hu; (simp only [rel.put_lit, List.set_cons_succ, List.set_cons_zero])))
  (apply rel.walk_val; (focus (intro wq hq hf; go_wp2; refine ⟨hq, Below.refl _ _, ?_, rfl⟩; (show rel.slot _ _ = _; simp only [rel.slot_lit, List.getD_cons_succ, List.getD_cons_zero]; (first | done | exact rfl)))); (simp only [rel.put_lit, List.set_cons_succ, List.set_cons_zero]))
  (apply rel.walk_val; (focus (intro wq hq hf; go_wp2_with (go_at_call 14; refine (same.ints_eq he54.out (hf.get 0 rfl rfl) (i0.on hq)).mono ?_; rintro e w'' ⟨rfl, hbb⟩); refine ⟨hq.trans (hbb.mono hq.size), hbb, ?_, rfl⟩; (show rel.slot _ _ = _; simp only [rel.slot_lit, List.getD_cons_succ, List.getD_cons_zero]; (first | done | exact rfl)))); (simp only [rel.put_lit, List.set_cons_succ, List.set_cons_zero]))
  (apply rel.walk_val; (focus (intro wq hq hf; go_wp2; refine ⟨hq, Below.refl _ _, ?_, rfl⟩; (show rel.slot _ _ = _; simp only [rel.slot_lit, List.getD_cons_succ, List.getD_cons_zero]; (first | done | exact rfl)))); (simp only [rel.put_lit, List.set_cons_succ, List.set_cons_zero]))
  refine rel.walk_nil ?_
  intro W55 kwW55 hF
  clear hF
  replace i0 := i0.on kwW55
  replace i1 := i1.on kwW55
  replace i2 := i2.on kwW55
  replace f11 := f11.on kwW55
  replace B13 := B13.on kwW55
  replace f17 := f17.on kwW55
  replace B19 := B19.on kwW55
  replace f23 := f23.on kwW55
  replace B25 := B25.on kwW55
  replace z29 := z29.on kwW55
  replace B30 := B30.on kwW55
  replace hb := hb.trans (kwW55.mono hb.size)
  refine hK50.out _ _ ?_
  refine wp_seq_k fun K56 hK56 => ?_
  replace hK56 := Lib.hid hK56
  obtain ⟨t58, ht58, bt58⟩ := rel.name_list (l0 ++ l1) 2097152 (by simp; omega)
  obtain ⟨t61, ht61, bt61⟩ := rel.name_list (l0 ++ l1) 2097152 (by simp; omega)
  have he62 : t58 = t61 := (by (simp only [← ht61.out, ← ht58.out]) <;> simp)
  replace he62 := Lib.hid he62
  -- region 11 (low.go:130)
  apply rel.seq (C := fun w' => Below W55.heap.size W55 w') (X := fun w w' => Below w.heap.size w w') (by kernel_rfl) (by kernel_rfl) (Below.refl _ _)
  ((apply rel.walk_val; (focus (intro wq hq hf; (obtain ⟨d0, d1⟩ := ((B13).below hq (B13).lt).cells2); go_wp2; refine ⟨hq, Below.refl _ _, ?_, rfl⟩; (show rel.slot _ _ = _; simp only [rel.slot_lit, List.getD_cons_succ, List.getD_cons_zero]; (first | done | exact rfl)))); (simp only [rel.put_lit, List.set_cons_succ, List.set_cons_zero])))
  ((apply rel.walk_val; (focus (intro wq hq hf; (obtain ⟨d0, d1⟩ := ((B19).below hq (B19).lt).cells2); go_wp2; refine ⟨hq, Below.refl _ _, ?_, rfl⟩; (show rel.slot _ _ = _; simp only [rel.slot_lit, List.getD_cons_succ, List.getD_cons_zero]; (first | done | exact rfl)))); (simp only [rel.put_lit, List.set_cons_succ, List.set_cons_zero])))
  (apply rel.walk_rel (fun u w' => lst.IsList w' w'.heap.size u (t58)) ⟨_, rfl⟩ (fun u w1 w2 h1 h2 => h2.on h1); (focus (intro wq hq hf; go_wp2_with (go_at_call 21; refine (lst.join_to ht58.out (f11.on hq) (f17.on hq) (by first | omega | simp) (by first | omega | simp)).mono ?_; rintro e w'' ⟨⟨u, rfl, hu⟩, hbb⟩); refine ⟨hq.trans (hbb.mono hq.size), hbb, ?_, rfl⟩; (show lst.IsList _ _ (rel.slot _ _) _; simp only [rel.slot_lit, List.getD_cons_succ, List.getD_cons_zero]; exact hu))); (intro u wu _ hu; obtain ⟨p57, rfl, -, -⟩ := hu; (simp only [rel.put_lit, List.set_cons_succ, List.set_cons_zero])))
  (apply rel.walk_rel (fun u w' => hp.IsInts w' w'.heap.size u (t58)) ⟨_, rfl⟩ (fun u w1 w2 h1 h2 => h2.on h1); (focus (intro wq hq hf; go_wp2_with (go_at_call 15; refine (lst.ints_any _ t58 _ (hf.get 0 rfl rfl) (by first | omega | simp)).mono ?_; rintro e w'' ⟨⟨u, rfl, hu⟩, hbb⟩); refine ⟨hq.trans (hbb.mono hq.size), hbb, ?_, rfl⟩; (show hp.IsInts _ _ (rel.slot _ _) _; simp only [rel.slot_lit, List.getD_cons_succ, List.getD_cons_zero]; exact hu))); (intro u wu _ hu; obtain ⟨av59, cv59, rfl, -⟩ := hu; (simp only [rel.put_lit, List.set_cons_succ, List.set_cons_zero])))
  (apply rel.walk_val; (focus (intro wq hq hf; go_wp2; refine ⟨hq, Below.refl _ _, ?_, rfl⟩; (show rel.slot _ _ = _; simp only [rel.slot_lit, List.getD_cons_succ, List.getD_cons_zero]; (first | done | exact rfl)))); (simp only [rel.put_lit, List.set_cons_succ, List.set_cons_zero]))
  (apply rel.walk_val; (focus (intro wq hq hf; go_wp2; refine ⟨hq, Below.refl _ _, ?_, rfl⟩; (show rel.slot _ _ = _; simp only [rel.slot_lit, List.getD_cons_succ, List.getD_cons_zero]; (first | done | exact rfl)))); (simp only [rel.put_lit, List.set_cons_succ, List.set_cons_zero]))
  (apply rel.walk_rel (fun u w' => hp.IsInts w' w'.heap.size u (t61)) ⟨_, rfl⟩ (fun u w1 w2 h1 h2 => h2.on h1); (focus (intro wq hq hf; go_wp2_with (go_at_call 23; refine (same.cat_eq ht61.out (i0.on hq) (i1.on hq) (by first | omega | simp)).mono ?_; rintro e w'' ⟨⟨u, rfl, hu⟩, hbb⟩); refine ⟨hq.trans (hbb.mono hq.size), hbb, ?_, rfl⟩; (show hp.IsInts _ _ (rel.slot _ _) _; simp only [rel.slot_lit, List.getD_cons_succ, List.getD_cons_zero]; exact hu))); (intro u wu _ hu; obtain ⟨av60, cv60, rfl, -⟩ := hu; (simp only [rel.put_lit, List.set_cons_succ, List.set_cons_zero])))
  (apply rel.walk_val; (focus (intro wq hq hf; go_wp2_with (go_at_call 14; refine (same.ints_eq he62.out (hf.get 1 rfl rfl) (hf.get 0 rfl rfl)).mono ?_; rintro e w'' ⟨rfl, hbb⟩); refine ⟨hq.trans (hbb.mono hq.size), hbb, ?_, rfl⟩; (show rel.slot _ _ = _; simp only [rel.slot_lit, List.getD_cons_succ, List.getD_cons_zero]; (first | done | exact rfl)))); (simp only [rel.put_lit, List.set_cons_succ, List.set_cons_zero]))
  (apply rel.walk_val; (focus (intro wq hq hf; go_wp2; refine ⟨hq, Below.refl _ _, ?_, rfl⟩; (show rel.slot _ _ = _; simp only [rel.slot_lit, List.getD_cons_succ, List.getD_cons_zero]; (first | done | exact rfl)))); (simp only [rel.put_lit, List.set_cons_succ, List.set_cons_zero]))
  refine rel.walk_nil ?_
  intro W63 kwW63 hF
  clear hF
  replace i0 := i0.on kwW63
  replace i1 := i1.on kwW63
  replace i2 := i2.on kwW63
  replace f11 := f11.on kwW63
  replace B13 := B13.on kwW63
  replace f17 := f17.on kwW63
  replace B19 := B19.on kwW63
  replace f23 := f23.on kwW63
  replace B25 := B25.on kwW63
  replace z29 := z29.on kwW63
  replace B30 := B30.on kwW63
  replace hb := hb.trans (kwW63.mono hb.size)
  refine hK56.out _ _ ?_
  refine wp_seq_k fun K64 hK64 => ?_
  replace hK64 := Lib.hid hK64
  obtain ⟨t66, ht66, bt66⟩ := rel.name_list (l0 ++ l1) 2097152 (by simp; omega)
  -- region 12 (low.go:131)
  apply rel.seq (C := fun w' => Below W63.heap.size W63 w') (X := fun w w' => Below w.heap.size w w') (by kernel_rfl) (by kernel_rfl) (Below.refl _ _)
  (apply rel.walk_val; (focus (intro wq hq hf; go_wp2; refine ⟨hq, Below.refl _ _, ?_, rfl⟩; (show rel.slot _ _ = _; simp only [rel.slot_lit, List.getD_cons_succ, List.getD_cons_zero]; (first | done | exact rfl)))); (simp only [rel.put_lit, List.set_cons_succ, List.set_cons_zero]))
  (apply rel.walk_val; (focus (intro wq hq hf; go_wp2; refine ⟨hq, Below.refl _ _, ?_, rfl⟩; (show rel.slot _ _ = _; simp only [rel.slot_lit, List.getD_cons_succ, List.getD_cons_zero]; (first | done | exact rfl)))); (simp only [rel.put_lit, List.set_cons_succ, List.set_cons_zero]))
  (apply rel.walk_val; (focus (intro wq hq hf; go_wp2; refine ⟨hq, Below.refl _ _, ?_, rfl⟩; (show rel.slot _ _ = _; simp only [rel.slot_lit, List.getD_cons_succ, List.getD_cons_zero]; (first | done | exact rfl)))); (simp only [rel.put_lit, List.set_cons_succ, List.set_cons_zero]))
  (apply rel.walk_val; (focus (intro wq hq hf; go_wp2; refine ⟨hq, Below.refl _ _, ?_, rfl⟩; (show rel.slot _ _ = _; simp only [rel.slot_lit, List.getD_cons_succ, List.getD_cons_zero]; (first | done | exact rfl)))); (simp only [rel.put_lit, List.set_cons_succ, List.set_cons_zero]))
  (apply rel.walk_val; (focus (intro wq hq hf; go_wp2; refine ⟨hq, Below.refl _ _, ?_, rfl⟩; (show rel.slot _ _ = _; simp only [rel.slot_lit, List.getD_cons_succ, List.getD_cons_zero]; (first | done | exact rfl)))); (simp only [rel.put_lit, List.set_cons_succ, List.set_cons_zero]))
  (apply rel.walk_val; (focus (intro wq hq hf; go_wp2; refine ⟨hq, Below.refl _ _, ?_, rfl⟩; (show rel.slot _ _ = _; simp only [rel.slot_lit, List.getD_cons_succ, List.getD_cons_zero]; (first | done | exact rfl)))); (simp only [rel.put_lit, List.set_cons_succ, List.set_cons_zero]))
  (apply rel.walk_val; (focus (intro wq hq hf; go_wp2; refine ⟨hq, Below.refl _ _, ?_, rfl⟩; (show rel.slot _ _ = _; simp only [rel.slot_lit, List.getD_cons_succ, List.getD_cons_zero]; (first | done | exact rfl)))); (simp only [rel.put_lit, List.set_cons_succ, List.set_cons_zero]))
  (apply rel.walk_val; (focus (intro wq hq hf; go_wp2; refine ⟨hq, Below.refl _ _, ?_, rfl⟩; (show rel.slot _ _ = _; simp only [rel.slot_lit, List.getD_cons_succ, List.getD_cons_zero]; (first | done | exact rfl)))); (simp only [rel.put_lit, List.set_cons_succ, List.set_cons_zero]))
  (apply rel.walk_val; (focus (intro wq hq hf; go_wp2; refine ⟨hq, Below.refl _ _, ?_, rfl⟩; (show rel.slot _ _ = _; simp only [rel.slot_lit, List.getD_cons_succ, List.getD_cons_zero]; (first | done | exact rfl)))); (simp only [rel.put_lit, List.set_cons_succ, List.set_cons_zero]))
  (apply rel.walk_val; (focus (intro wq hq hf; go_wp2; refine ⟨hq, Below.refl _ _, ?_, rfl⟩; (show rel.slot _ _ = _; simp only [rel.slot_lit, List.getD_cons_succ, List.getD_cons_zero]; (first | done | exact rfl)))); (simp only [rel.put_lit, List.set_cons_succ, List.set_cons_zero]))
  (apply rel.walk_val; (focus (intro wq hq hf; go_wp2; refine ⟨hq, Below.refl _ _, ?_, rfl⟩; (show rel.slot _ _ = _; simp only [rel.slot_lit, List.getD_cons_succ, List.getD_cons_zero]; (first | done | exact rfl)))); (simp only [rel.put_lit, List.set_cons_succ, List.set_cons_zero]))
  ((apply rel.walk_val; (focus (intro wq hq hf; (obtain ⟨d0, d1⟩ := ((B13).below hq (B13).lt).cells2); go_wp2; refine ⟨hq, Below.refl _ _, ?_, rfl⟩; (show rel.slot _ _ = _; simp only [rel.slot_lit, List.getD_cons_succ, List.getD_cons_zero]; (first | done | exact rfl)))); (simp only [rel.put_lit, List.set_cons_succ, List.set_cons_zero])))
  ((apply rel.walk_val; (focus (intro wq hq hf; (obtain ⟨d0, d1⟩ := ((B19).below hq (B19).lt).cells2); go_wp2; refine ⟨hq, Below.refl _ _, ?_, rfl⟩; (show rel.slot _ _ = _; simp only [rel.slot_lit, List.getD_cons_succ, List.getD_cons_zero]; (first | done | exact rfl)))); (simp only [rel.put_lit, List.set_cons_succ, List.set_cons_zero])))
  (apply rel.walk_rel (fun u w' => lst.IsList w' w'.heap.size u (t66)) ⟨_, rfl⟩ (fun u w1 w2 h1 h2 => h2.on h1); (focus (intro wq hq hf; go_wp2_with (go_at_call 21; refine (lst.join_to ht66.out (f11.on hq) (f17.on hq) (by first | omega | simp) (by first | omega | simp)).mono ?_; rintro e w'' ⟨⟨u, rfl, hu⟩, hbb⟩); refine ⟨hq.trans (hbb.mono hq.size), hbb, ?_, rfl⟩; (show lst.IsList _ _ (rel.slot _ _) _; simp only [rel.slot_lit, List.getD_cons_succ, List.getD_cons_zero]; exact hu))); (intro u wu _ hu; obtain ⟨p65, rfl, -, -⟩ := hu; (simp only [rel.put_lit, List.set_cons_succ, List.set_cons_zero])))
  (apply rel.walk_val; (focus (intro wq hq hf; go_wp2_with (go_at_call 17; refine (lst.len_raw _ _ _).mono ?_; rintro e w'' ⟨rfl, hbb⟩); refine ⟨hq.trans (hbb.mono hq.size), hbb, ?_, rfl⟩; (show rel.slot _ _ = _; simp only [rel.slot_lit, List.getD_cons_succ, List.getD_cons_zero]; (first | done | exact rfl)))); (simp only [rel.put_lit, List.set_cons_succ, List.set_cons_zero]))
  (apply rel.walk_val; (focus (intro wq hq hf; go_wp2; refine ⟨hq, Below.refl _ _, ?_, rfl⟩; (show rel.slot _ _ = _; simp only [rel.slot_lit, List.getD_cons_succ, List.getD_cons_zero]; (first | done | exact rfl)))); (simp only [rel.put_lit, List.set_cons_succ, List.set_cons_zero]))
  (apply rel.walk_val; (focus (intro wq hq hf; go_wp2; refine ⟨hq, Below.refl _ _, ?_, rfl⟩; (show rel.slot _ _ = _; simp only [rel.slot_lit, List.getD_cons_succ, List.getD_cons_zero]; (first | done | exact rfl)))); (simp only [rel.put_lit, List.set_cons_succ, List.set_cons_zero]))
  (apply rel.walk_val; (focus (intro wq hq hf; go_wp2; refine ⟨hq, Below.refl _ _, ?_, rfl⟩; (show rel.slot _ _ = _; simp only [rel.slot_lit, List.getD_cons_succ, List.getD_cons_zero]; (first | done | exact rfl)))); (simp only [rel.put_lit, List.set_cons_succ, List.set_cons_zero]))
  (apply rel.walk_val; (focus (intro wq hq hf; go_wp2; refine ⟨hq, Below.refl _ _, ?_, rfl⟩; (show rel.slot _ _ = _; simp only [rel.slot_lit, List.getD_cons_succ, List.getD_cons_zero]; (first | done | exact rfl)))); (simp only [rel.put_lit, List.set_cons_succ, List.set_cons_zero]))
  (apply rel.walk_val; (focus (intro wq hq hf; go_wp2; refine ⟨hq, Below.refl _ _, ?_, rfl⟩; (show rel.slot _ _ = _; simp only [rel.slot_lit, List.getD_cons_succ, List.getD_cons_zero]; (first | done | exact rfl)))); (simp only [rel.put_lit, List.set_cons_succ, List.set_cons_zero]))
  (apply rel.walk_val; (focus (intro wq hq hf; (have eqt66 := (show t66.length = l0.length + l1.length by (simp only [← ht66.out]) <;> simp <;> omega)); go_wp2; refine ⟨hq, Below.refl _ _, ?_, rfl⟩; (show rel.slot _ _ = _; simp only [rel.slot_lit, List.getD_cons_succ, List.getD_cons_zero]; (first | done | exact rfl)))); (simp only [rel.put_lit, List.set_cons_succ, List.set_cons_zero]))
  (apply rel.walk_val; (focus (intro wq hq hf; go_wp2; refine ⟨hq, Below.refl _ _, ?_, rfl⟩; (show rel.slot _ _ = _; simp only [rel.slot_lit, List.getD_cons_succ, List.getD_cons_zero]; (first | done | exact rfl)))); (simp only [rel.put_lit, List.set_cons_succ, List.set_cons_zero]))
  (apply rel.walk_val; (focus (intro wq hq hf; go_wp2; refine ⟨hq, Below.refl _ _, ?_, rfl⟩; (show rel.slot _ _ = _; simp only [rel.slot_lit, List.getD_cons_succ, List.getD_cons_zero]; (first | done | exact rfl)))); (simp only [rel.put_lit, List.set_cons_succ, List.set_cons_zero]))
  refine rel.walk_nil ?_
  intro W67 kwW67 hF
  clear hF
  replace i0 := i0.on kwW67
  replace i1 := i1.on kwW67
  replace i2 := i2.on kwW67
  replace f11 := f11.on kwW67
  replace B13 := B13.on kwW67
  replace f17 := f17.on kwW67
  replace B19 := B19.on kwW67
  replace f23 := f23.on kwW67
  replace B25 := B25.on kwW67
  replace z29 := z29.on kwW67
  replace B30 := B30.on kwW67
  replace hb := hb.trans (kwW67.mono hb.size)
  refine hK64.out _ _ ?_
  refine wp_ret ?_
  go_ret
  exact ⟨rfl, hb⟩

end Go.Proofs.Ytkhnfkejmhhcjaa.listJoins
