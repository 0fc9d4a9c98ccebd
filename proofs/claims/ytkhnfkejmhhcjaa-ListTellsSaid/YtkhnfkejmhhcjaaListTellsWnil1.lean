/- The walk of ListTells, one case. -/
import Derived.Test.YtkhnfkejmhhcjaaLstWalks
namespace Go.Proofs.Ytkhnfkejmhhcjaa.listTells
open Go Go.RowKit
set_option linter.unusedVariables false

set_option maxHeartbeats 8000000 in
theorem walk_nil1 (v0 : Value) (l0 : List Int) (x1 : Int) (x2 : Int) (w : World) (i0 : hp.IsInts w w.heap.size v0 l0) (w1 : (Lit.int .i64 x1).wf = true) (w2 : (Lit.int .i64 x2).wf = true) (bd0 : l0.length ≤ 17592186043904) (hnil : l0 = []) (hi : x2 < 0) :
    Calls Try.prog 3 #[v0, .int .i64 x1, .int .i64 x2] w fun e w' => e = .returned (.bool true) ∧ Below w.heap.size w w' := by
  have hb : Below w.heap.size w w := Below.refl _ _
  have hsf := lst.store_func
  obtain ⟨a0, c0, he0, hr0⟩ := i0
  have i0 : hp.IsInts w w.heap.size (.slice a0 l0.length c0) l0 := ⟨a0, c0, rfl, hr0⟩
  subst he0
  clear hr0
  replace hnil := Lib.hid hnil
  have hle : (l0.length : Int) ≤ 0 := by rw [hnil.out]; simp
  go_enter Try.func3, Try.ntmps3
  refine wp_seq_k fun K1 hK1 => ?_
  replace hK1 := Lib.hid hK1
  -- region 0 (low.go:83)
  apply rel.seq (C := fun w' => Below w.heap.size w w') (X := fun w w' => Below w.heap.size w w') (by kernel_rfl) (by kernel_rfl) (Below.refl _ _)
  (apply rel.walk_val; (focus (intro wq hq hf; go_wp2; refine ⟨hq, Below.refl _ _, ?_, rfl⟩; (show rel.slot _ _ = _; simp only [rel.slot_lit, List.getD_cons_succ, List.getD_cons_zero]; (first | done | exact rfl)))); (simp only [rel.put_lit, List.set_cons_succ, List.set_cons_zero]))
  refine rel.walk_nil ?_
  intro W2 kwW2 hF
  clear hF
  replace i0 := i0.on kwW2
  replace hb := hb.trans (kwW2.mono hb.size)
  refine hK1.out _ _ ?_
  refine wp_seq_k fun K3 hK3 => ?_
  replace hK3 := Lib.hid hK3
  -- region 1 (low.go:84)
  apply rel.seq (C := fun w' => Below W2.heap.size W2 w') (X := fun w w' => Below w.heap.size w w') (by kernel_rfl) (by kernel_rfl) (Below.refl _ _)
  (apply rel.walk_val; (focus (intro wq hq hf; go_wp2_with (go_at_call 12; refine (lst.listed_any _).mono ?_; rintro e w'' ⟨rfl, hbb⟩); refine ⟨hq.trans (hbb.mono hq.size), hbb, ?_, rfl⟩; (show rel.slot _ _ = _; simp only [rel.slot_lit, List.getD_cons_succ, List.getD_cons_zero]; (first | done | exact rfl)))); (simp only [rel.put_lit, List.set_cons_succ, List.set_cons_zero]))
  (apply rel.walk_val; (focus (intro wq hq hf; go_wp2; refine ⟨hq, Below.refl _ _, ?_, rfl⟩; (show rel.slot _ _ = _; simp only [rel.slot_lit, List.getD_cons_succ, List.getD_cons_zero]; (first | done | exact rfl)))); (simp only [rel.put_lit, List.set_cons_succ, List.set_cons_zero]))
  refine rel.walk_nil ?_
  intro W4 kwW4 hF
  clear hF
  replace i0 := i0.on kwW4
  replace hb := hb.trans (kwW4.mono hb.size)
  refine hK3.out _ _ ?_
  refine wp_seq_k fun K5 hK5 => ?_
  replace hK5 := Lib.hid hK5
  -- region 2 (low.go:85)
  apply rel.seq_tail (hn := by decide) (C := fun w' => Below W4.heap.size W4 w') (X := fun w w' => Below w.heap.size w w') 2 (by kernel_rfl) (by kernel_rfl) (Below.refl _ _)
  (apply rel.walk_val; (focus (intro wq hq hf; go_wp2; refine ⟨hq, Below.refl _ _, ?_, rfl⟩; (show rel.slot _ _ = _; simp only [rel.slot_lit, List.getD_cons_succ, List.getD_cons_zero]; (first | done | exact rfl)))); (simp only [rel.put_lit, List.set_cons_succ, List.set_cons_zero]))
  (apply rel.walk_rel (fun u w' => lst.IsList w' w'.heap.size u (l0)) ⟨_, rfl⟩ (fun u w1 w2 h1 h2 => h2.on h1); (focus (intro wq hq hf; go_wp2_with (go_at_call 13; refine (lst.of_any _ l0 _ (i0.on hq) (by first | omega | simp)).mono ?_; rintro e w'' ⟨⟨u, rfl, hu⟩, hbb⟩); refine ⟨hq.trans (hbb.mono hq.size), hbb, ?_, rfl⟩; (show lst.IsList _ _ (rel.slot _ _) _; simp only [rel.slot_lit, List.getD_cons_succ, List.getD_cons_zero]; exact hu))); (intro u wu _ hu; obtain ⟨p6, rfl, -, -⟩ := hu; (simp only [rel.put_lit, List.set_cons_succ, List.set_cons_zero])))
  refine rel.walk_nil ?_
  intro W7 kwW7 hF
  have f8 : lst.IsList W7 W7.heap.size (lst.lv p6 l0.length) l0 := rel.fact hF 0 rfl
  clear hF
  replace i0 := i0.on kwW7
  replace hb := hb.trans (kwW7.mono hb.size)
  simp only [List.drop_succ_cons, List.drop_zero]
  go_wp2
  obtain ⟨W9, hW9⟩ : ∃ x, (W7.alloc (.cells #[.pointer p6, .int .i64 l0.length] 26)) = x := ⟨_, rfl⟩
  have B10 : hp.Blk W9 (W7.heap.size) 26 [.pointer p6, .int .i64 l0.length] := by rw [← hW9]; (first | exact hp.Blk.newAt (by simp) | exact (hp.Blk.newAt (by simp)).alloc _ | exact ((hp.Blk.newAt (by simp)).alloc _).alloc _ | exact (((hp.Blk.newAt (by simp)).alloc _).alloc _).alloc _ | exact ((((hp.Blk.newAt (by simp)).alloc _).alloc _).alloc _).alloc _ | exact (((((hp.Blk.newAt (by simp)).alloc _).alloc _).alloc _).alloc _).alloc _)
  have kwW9 : Below W7.heap.size W7 W9 := by rw [← hW9]; ((repeat' (first | with_reducible exact Below.refl _ _ | with_reducible apply Below.setCell | with_reducible apply below_drewN | with_reducible apply Below.drew | with_reducible apply Below.alloc | with_reducible refine Below.trans ?_ (Below.mono (by assumption) ?_))) <;> (first | (simp; done) | (simp; omega) | omega))
  rw [hW9]
  clear hW9
  replace i0 := i0.on kwW9
  replace f8 := f8.on kwW9
  replace hb := hb.trans (kwW9.mono hb.size)
  refine hK5.out _ _ ?_
  refine wp_seq_k fun K11 hK11 => ?_
  replace hK11 := Lib.hid hK11
  -- region 3 (low.go:86)
  apply rel.seq (C := fun w' => Below W9.heap.size W9 w') (X := fun w w' => Below w.heap.size w w') (by kernel_rfl) (by kernel_rfl) (Below.refl _ _)
  ((apply rel.walk_val; (focus (intro wq hq hf; (obtain ⟨d0, d1⟩ := ((B10).below hq (B10).lt).cells2); go_wp2; refine ⟨hq, Below.refl _ _, ?_, rfl⟩; (show rel.slot _ _ = _; simp only [rel.slot_lit, List.getD_cons_succ, List.getD_cons_zero]; (first | done | exact rfl)))); (simp only [rel.put_lit, List.set_cons_succ, List.set_cons_zero])))
  (apply rel.walk_rel (fun u w' => hp.IsInts w' w'.heap.size u (l0)) ⟨_, rfl⟩ (fun u w1 w2 h1 h2 => h2.on h1); (focus (intro wq hq hf; go_wp2_with (go_at_call 15; refine (lst.ints_any _ l0 _ (f8.on hq) (by first | omega | simp)).mono ?_; rintro e w'' ⟨⟨u, rfl, hu⟩, hbb⟩); refine ⟨hq.trans (hbb.mono hq.size), hbb, ?_, rfl⟩; (show hp.IsInts _ _ (rel.slot _ _) _; simp only [rel.slot_lit, List.getD_cons_succ, List.getD_cons_zero]; exact hu))); (intro u wu _ hu; obtain ⟨av12, cv12, rfl, -⟩ := hu; (simp only [rel.put_lit, List.set_cons_succ, List.set_cons_zero])))
  (apply rel.walk_val; (focus (intro wq hq hf; go_wp2; refine ⟨hq, Below.refl _ _, ?_, rfl⟩; (show rel.slot _ _ = _; simp only [rel.slot_lit, List.getD_cons_succ, List.getD_cons_zero]; (first | done | exact rfl)))); (simp only [rel.put_lit, List.set_cons_succ, List.set_cons_zero]))
  (apply rel.walk_val; (focus (intro wq hq hf; go_wp2_with (go_at_call 14; refine (same.ints_eq rfl (hf.get 0 rfl rfl) (i0.on hq)).mono ?_; rintro e w'' ⟨rfl, hbb⟩); refine ⟨hq.trans (hbb.mono hq.size), hbb, ?_, rfl⟩; (show rel.slot _ _ = _; simp only [rel.slot_lit, List.getD_cons_succ, List.getD_cons_zero]; (first | done | exact rfl)))); (simp only [rel.put_lit, List.set_cons_succ, List.set_cons_zero]))
  (apply rel.walk_val; (focus (intro wq hq hf; go_wp2; refine ⟨hq, Below.refl _ _, ?_, rfl⟩; (show rel.slot _ _ = _; simp only [rel.slot_lit, List.getD_cons_succ, List.getD_cons_zero]; (first | done | exact rfl)))); (simp only [rel.put_lit, List.set_cons_succ, List.set_cons_zero]))
  refine rel.walk_nil ?_
  intro W13 kwW13 hF
  clear hF
  replace i0 := i0.on kwW13
  replace f8 := f8.on kwW13
  replace B10 := B10.on kwW13
  replace hb := hb.trans (kwW13.mono hb.size)
  refine hK11.out _ _ ?_
  refine wp_seq_k fun K14 hK14 => ?_
  replace hK14 := Lib.hid hK14
  obtain ⟨t16, ht16, bt16⟩ := rel.name_list (x1 :: l0) 17592186043905 (by simp; omega)
  -- region 4 (low.go:87)
  apply rel.seq_tail (hn := by decide) (C := fun w' => Below W13.heap.size W13 w') (X := fun w w' => Below w.heap.size w w') 5 (by kernel_rfl) (by kernel_rfl) (Below.refl _ _)
  ((apply rel.walk_val; (focus (intro wq hq hf; (obtain ⟨d0, d1⟩ := ((B10).below hq (B10).lt).cells2); go_wp2; refine ⟨hq, Below.refl _ _, ?_, rfl⟩; (show rel.slot _ _ = _; simp only [rel.slot_lit, List.getD_cons_succ, List.getD_cons_zero]; (first | done | exact rfl)))); (simp only [rel.put_lit, List.set_cons_succ, List.set_cons_zero])))
  (apply rel.walk_val; (focus (intro wq hq hf; go_wp2; refine ⟨hq, Below.refl _ _, ?_, rfl⟩; (show rel.slot _ _ = _; simp only [rel.slot_lit, List.getD_cons_succ, List.getD_cons_zero]; (first | done | exact rfl)))); (simp only [rel.put_lit, List.set_cons_succ, List.set_cons_zero]))
  (apply rel.walk_rel (fun u w' => lst.IsList w' w'.heap.size u (t16)) ⟨_, rfl⟩ (fun u w1 w2 h1 h2 => h2.on h1); (focus (intro wq hq hf; go_wp2_with (go_at_call 16; refine (lst.push_to ht16.out (f8.on hq) w1 (by first | omega | simp)).mono ?_; rintro e w'' ⟨⟨u, rfl, hu⟩, hbb⟩); refine ⟨hq.trans (hbb.mono hq.size), hbb, ?_, rfl⟩; (show lst.IsList _ _ (rel.slot _ _) _; simp only [rel.slot_lit, List.getD_cons_succ, List.getD_cons_zero]; exact hu))); (intro u wu _ hu; obtain ⟨p15, rfl, -, -⟩ := hu; (simp only [rel.put_lit, List.set_cons_succ, List.set_cons_zero])))
  (apply rel.walk_rel (fun u w' => hp.IsInts w' w'.heap.size u (t16)) ⟨_, rfl⟩ (fun u w1 w2 h1 h2 => h2.on h1); (focus (intro wq hq hf; go_wp2_with (go_at_call 15; refine (lst.ints_any _ t16 _ (hf.get 0 rfl rfl) (by first | omega | simp)).mono ?_; rintro e w'' ⟨⟨u, rfl, hu⟩, hbb⟩); refine ⟨hq.trans (hbb.mono hq.size), hbb, ?_, rfl⟩; (show hp.IsInts _ _ (rel.slot _ _) _; simp only [rel.slot_lit, List.getD_cons_succ, List.getD_cons_zero]; exact hu))); (intro u wu _ hu; obtain ⟨av17, cv17, rfl, -⟩ := hu; (simp only [rel.put_lit, List.set_cons_succ, List.set_cons_zero])))
  (apply rel.walk_val; (focus (intro wq hq hf; go_wp2; refine ⟨hq, Below.refl _ _, ?_, rfl⟩; (show rel.slot _ _ = _; simp only [rel.slot_lit, List.getD_cons_succ, List.getD_cons_zero]; (first | done | exact rfl)))); (simp only [rel.put_lit, List.set_cons_succ, List.set_cons_zero]))
  refine rel.walk_nil ?_
  intro W18 kwW18 hF
  have f19 : hp.IsInts W18 W18.heap.size (.slice av17 t16.length cv17) t16 := rel.fact hF 0 rfl
  clear hF
  replace i0 := i0.on kwW18
  replace f8 := f8.on kwW18
  replace B10 := B10.on kwW18
  replace hb := hb.trans (kwW18.mono hb.size)
  simp only [List.drop_succ_cons, List.drop_zero]
  have he20 : t16 = (x1 :: l0) := (by (simp only [← ht16.out]) <;> simp)
  replace he20 := Lib.hid he20
  go_wp2_with (first | (at_builtin; refine hp.append_ints rfl _ _ 22 rfl W18.heap.size 3 Try.underlying22 same.infoInt _ 1 [x1] rfl (lst.row_lit1 _ _) _ l0 rfl (i0.below ((Below.refl _ _).alloc (Nat.le_refl _) _)) (by omega) (by simp) ?_; intro u10 w10 hown10 hgrow10; have kb10 : Below W18.heap.size W18 w10 := ((Below.refl _ _).alloc (Nat.le_refl _) _).grown hgrow10 (by simp) (fun k e => by cases e; exact Nat.le_refl _); have hI10 : hp.IsInts w10 w10.heap.size u10 (x1 :: l0) := hp.IsInts.of_owns hown10 (by rw [List.length_cons]; omega) (lst.wf_cons w1 i0.wf); obtain ⟨a10, c10, he10, hr10⟩ := hI10; have hI10 : hp.IsInts w10 w10.heap.size (.slice a10 (x1 :: l0).length c10) (x1 :: l0) := ⟨a10, c10, rfl, hr10⟩; subst he10; clear hr10 hown10 hgrow10) | (go_at_call 14; refine (same.ints_eq he20.out (f19.on kb10) hI10).mono ?_; rintro e w11 ⟨rfl, kb11⟩))
  have kwW22 : Below W18.heap.size W18 w11 := kb10.trans (kb11.mono kb10.size)
  clear kb10 kb11 hI10
  generalize w11 = W22 at kwW22 ⊢
  replace i0 := i0.on kwW22
  replace f8 := f8.on kwW22
  replace B10 := B10.on kwW22
  replace f19 := f19.on kwW22
  replace hb := hb.trans (kwW22.mono hb.size)
  refine hK14.out _ _ ?_
  refine wp_seq_k fun K23 hK23 => ?_
  replace hK23 := Lib.hid hK23
  refine wp_seq_k fun K24 hK24 => ?_
  replace hK24 := Lib.hid hK24
  -- region 5 (low.go:88)
  apply rel.seq (C := fun w' => Below W22.heap.size W22 w') (X := fun w w' => Below w.heap.size w w') (by kernel_rfl) (by kernel_rfl) (Below.refl _ _)
  (apply rel.walk_val; (focus (intro wq hq hf; go_wp2; refine ⟨hq, Below.refl _ _, ?_, rfl⟩; (show rel.slot _ _ = _; simp only [rel.slot_lit, List.getD_cons_succ, List.getD_cons_zero]; (first | done | exact rfl)))); (simp only [rel.put_lit, List.set_cons_succ, List.set_cons_zero]))
  (apply rel.walk_val; (focus (intro wq hq hf; go_wp2; refine ⟨hq, Below.refl _ _, ?_, rfl⟩; (show rel.slot _ _ = _; simp only [rel.slot_lit, List.getD_cons_succ, List.getD_cons_zero]; (first | done | exact rfl)))); (simp only [rel.put_lit, List.set_cons_succ, List.set_cons_zero]))
  (apply rel.walk_val; (focus (intro wq hq hf; go_wp2; refine ⟨hq, Below.refl _ _, ?_, rfl⟩; (show rel.slot _ _ = _; simp only [rel.slot_lit, List.getD_cons_succ, List.getD_cons_zero]; (first | done | exact rfl)))); (simp only [rel.put_lit, List.set_cons_succ, List.set_cons_zero]))
  (apply rel.walk_val; (focus (intro wq hq hf; go_wp2; refine ⟨hq, Below.refl _ _, ?_, rfl⟩; (show rel.slot _ _ = _; simp only [rel.slot_lit, List.getD_cons_succ, List.getD_cons_zero]; (first | done | exact rfl)))); (simp only [rel.put_lit, List.set_cons_succ, List.set_cons_zero]))
  (apply rel.walk_val; (focus (intro wq hq hf; go_wp2; refine ⟨hq, Below.refl _ _, ?_, rfl⟩; (show rel.slot _ _ = _; simp only [rel.slot_lit, List.getD_cons_succ, List.getD_cons_zero]; (first | done | exact rfl)))); (simp only [rel.put_lit, List.set_cons_succ, List.set_cons_zero]))
  (apply rel.walk_val; (focus (intro wq hq hf; go_wp2; refine ⟨hq, Below.refl _ _, ?_, rfl⟩; (show rel.slot _ _ = _; simp only [rel.slot_lit, List.getD_cons_succ, List.getD_cons_zero]; (first | done | exact rfl)))); (simp only [rel.put_lit, List.set_cons_succ, List.set_cons_zero]))
  (apply rel.walk_val; (focus (intro wq hq hf; go_wp2; refine ⟨hq, Below.refl _ _, ?_, rfl⟩; (show rel.slot _ _ = _; simp only [rel.slot_lit, List.getD_cons_succ, List.getD_cons_zero]; (first | done | exact rfl)))); (simp only [rel.put_lit, List.set_cons_succ, List.set_cons_zero]))
  (apply rel.walk_val; (focus (intro wq hq hf; go_wp2; refine ⟨hq, Below.refl _ _, ?_, rfl⟩; (show rel.slot _ _ = _; simp only [rel.slot_lit, List.getD_cons_succ, List.getD_cons_zero]; (first | done | exact rfl)))); (simp only [rel.put_lit, List.set_cons_succ, List.set_cons_zero]))
  (apply rel.walk_val; (focus (intro wq hq hf; go_wp2; refine ⟨hq, Below.refl _ _, ?_, rfl⟩; (show rel.slot _ _ = _; simp only [rel.slot_lit, List.getD_cons_succ, List.getD_cons_zero]; (first | done | exact rfl)))); (simp only [rel.put_lit, List.set_cons_succ, List.set_cons_zero]))
  (apply rel.walk_val; (focus (intro wq hq hf; go_wp2; refine ⟨hq, Below.refl _ _, ?_, rfl⟩; (show rel.slot _ _ = _; simp only [rel.slot_lit, List.getD_cons_succ, List.getD_cons_zero]; (first | done | exact rfl)))); (simp only [rel.put_lit, List.set_cons_succ, List.set_cons_zero]))
  (apply rel.walk_val; (focus (intro wq hq hf; go_wp2; refine ⟨hq, Below.refl _ _, ?_, rfl⟩; (show rel.slot _ _ = _; simp only [rel.slot_lit, List.getD_cons_succ, List.getD_cons_zero]; (first | done | exact rfl)))); (simp only [rel.put_lit, List.set_cons_succ, List.set_cons_zero]))
  ((apply rel.walk_val; (focus (intro wq hq hf; (obtain ⟨d0, d1⟩ := ((B10).below hq (B10).lt).cells2); go_wp2; refine ⟨hq, Below.refl _ _, ?_, rfl⟩; (show rel.slot _ _ = _; simp only [rel.slot_lit, List.getD_cons_succ, List.getD_cons_zero]; (first | done | exact rfl)))); (simp only [rel.put_lit, List.set_cons_succ, List.set_cons_zero])))
  (apply rel.walk_val; (focus (intro wq hq hf; go_wp2_with (go_at_call 17; refine (lst.len_raw _ _ _).mono ?_; rintro e w'' ⟨rfl, hbb⟩); refine ⟨hq.trans (hbb.mono hq.size), hbb, ?_, rfl⟩; (show rel.slot _ _ = _; simp only [rel.slot_lit, List.getD_cons_succ, List.getD_cons_zero]; (first | done | exact rfl)))); (simp only [rel.put_lit, List.set_cons_succ, List.set_cons_zero]))
  (apply rel.walk_val; (focus (intro wq hq hf; go_wp2; refine ⟨hq, Below.refl _ _, ?_, rfl⟩; (show rel.slot _ _ = _; simp only [rel.slot_lit, List.getD_cons_succ, List.getD_cons_zero]; (first | done | exact rfl)))); (simp only [rel.put_lit, List.set_cons_succ, List.set_cons_zero]))
  (apply rel.walk_val; (focus (intro wq hq hf; go_wp2; refine ⟨hq, Below.refl _ _, ?_, rfl⟩; (show rel.slot _ _ = _; simp only [rel.slot_lit, List.getD_cons_succ, List.getD_cons_zero]; (first | done | exact rfl)))); (simp only [rel.put_lit, List.set_cons_succ, List.set_cons_zero]))
  (apply rel.walk_val; (focus (intro wq hq hf; go_wp2; refine ⟨hq, Below.refl _ _, ?_, rfl⟩; (show rel.slot _ _ = _; simp only [rel.slot_lit, List.getD_cons_succ, List.getD_cons_zero]; (first | done | exact rfl)))); (simp only [rel.put_lit, List.set_cons_succ, List.set_cons_zero]))
  (apply rel.walk_val; (focus (intro wq hq hf; go_wp2; refine ⟨hq, Below.refl _ _, ?_, rfl⟩; (show rel.slot _ _ = _; simp only [rel.slot_lit, List.getD_cons_succ, List.getD_cons_zero]; (first | done | exact rfl)))); (simp only [rel.put_lit, List.set_cons_succ, List.set_cons_zero]))
  refine rel.walk_nil ?_
  intro W25 kwW25 hF
  clear hF
  replace i0 := i0.on kwW25
  replace f8 := f8.on kwW25
  replace B10 := B10.on kwW25
  replace f19 := f19.on kwW25
  replace hb := hb.trans (kwW25.mono hb.size)
  refine hK24.out _ _ ?_
  refine wp_cond_false rfl ?_
  refine wp_skip ?_
  refine hK23.out _ _ ?_
  refine wp_seq_k fun K26 hK26 => ?_
  replace hK26 := Lib.hid hK26
  -- region 7 (low.go:91)
  apply rel.seq_tail (hn := by decide) (C := fun w' => Below W25.heap.size W25 w') (X := fun w w' => Below w.heap.size w w') 3 (by kernel_rfl) (by kernel_rfl) (Below.refl _ _)
  ((apply rel.walk_val; (focus (intro wq hq hf; (obtain ⟨d0, d1⟩ := ((B10).below hq (B10).lt).cells2); go_wp2; refine ⟨hq, Below.refl _ _, ?_, rfl⟩; (show rel.slot _ _ = _; simp only [rel.slot_lit, List.getD_cons_succ, List.getD_cons_zero]; (first | done | exact rfl)))); (simp only [rel.put_lit, List.set_cons_succ, List.set_cons_zero])))
  (apply rel.walk_val; (focus (intro wq hq hf; go_wp2; refine ⟨hq, Below.refl _ _, ?_, rfl⟩; (show rel.slot _ _ = _; simp only [rel.slot_lit, List.getD_cons_succ, List.getD_cons_zero]; (first | done | exact rfl)))); (simp only [rel.put_lit, List.set_cons_succ, List.set_cons_zero]))
  (apply rel.walk_val; (focus (intro wq hq hf; go_wp2_with (go_at_call 18; refine (lst.at_to (f8.on hq) (by omega) (.inr ⟨rfl, rfl, .inl (by omega)⟩)).mono ?_; rintro e w'' ⟨rfl, hbb⟩); refine ⟨hq.trans (hbb.mono hq.size), hbb, ?_, rfl⟩; (show rel.slot _ _ = _; simp only [rel.slot_lit, List.getD_cons_succ, List.getD_cons_zero]; (first | done | exact rfl)))); (simp only [rel.put_lit, List.set_cons_succ, List.set_cons_zero]))
  refine rel.walk_nil ?_
  intro W27 kwW27 hF
  clear hF
  replace i0 := i0.on kwW27
  replace f8 := f8.on kwW27
  replace B10 := B10.on kwW27
  replace f19 := f19.on kwW27
  replace hb := hb.trans (kwW27.mono hb.size)
  simp only [List.drop_succ_cons, List.drop_zero]
  go_wp2
  refine hK26.out _ _ ?_
  refine wp_seq_k fun K28 hK28 => ?_
  replace hK28 := Lib.hid hK28
  refine wp_seq_k fun K29 hK29 => ?_
  replace hK29 := Lib.hid hK29
  -- region 8 (low.go:92)
  apply rel.seq (C := fun w' => Below W27.heap.size W27 w') (X := fun w w' => Below w.heap.size w w') (by kernel_rfl) (by kernel_rfl) (Below.refl _ _)
  (apply rel.walk_val; (focus (intro wq hq hf; go_wp2; refine ⟨hq, Below.refl _ _, ?_, rfl⟩; (show rel.slot _ _ = _; simp only [rel.slot_lit, List.getD_cons_succ, List.getD_cons_zero]; (first | done | exact rfl)))); (simp only [rel.put_lit, List.set_cons_succ, List.set_cons_zero]))
  (apply rel.walk_val; (focus (intro wq hq hf; go_wp2; refine ⟨hq, Below.refl _ _, ?_, rfl⟩; (show rel.slot _ _ = _; simp only [rel.slot_lit, List.getD_cons_succ, List.getD_cons_zero]; (first | done | exact rfl)))); (simp only [rel.put_lit, List.set_cons_succ, List.set_cons_zero]))
  (apply rel.walk_val; (focus (intro wq hq hf; go_wp2; refine ⟨hq, Below.refl _ _, ?_, rfl⟩; (show rel.slot _ _ = _; simp only [rel.slot_lit, List.getD_cons_succ, List.getD_cons_zero]; (first | done | exact rfl)))); (simp only [rel.put_lit, List.set_cons_succ, List.set_cons_zero]))
  (apply rel.walk_val; (focus (intro wq hq hf; go_wp2; refine ⟨hq, Below.refl _ _, ?_, rfl⟩; (show rel.slot _ _ = _; simp only [rel.slot_lit, List.getD_cons_succ, List.getD_cons_zero]; (first | done | exact rfl)))); (simp only [rel.put_lit, List.set_cons_succ, List.set_cons_zero]))
  (apply rel.walk_val; (focus (intro wq hq hf; go_wp2; refine ⟨hq, Below.refl _ _, ?_, rfl⟩; (show rel.slot _ _ = _; simp only [rel.slot_lit, List.getD_cons_succ, List.getD_cons_zero]; (first | done | exact rfl)))); (simp only [rel.put_lit, List.set_cons_succ, List.set_cons_zero]))
  (apply rel.walk_val; (focus (intro wq hq hf; go_wp2; refine ⟨hq, Below.refl _ _, ?_, rfl⟩; (show rel.slot _ _ = _; simp only [rel.slot_lit, List.getD_cons_succ, List.getD_cons_zero]; (first | done | exact rfl)))); (simp only [rel.put_lit, List.set_cons_succ, List.set_cons_zero]))
  (apply rel.walk_val; (focus (intro wq hq hf; go_wp2; refine ⟨hq, Below.refl _ _, ?_, rfl⟩; (show rel.slot _ _ = _; simp only [rel.slot_lit, List.getD_cons_succ, List.getD_cons_zero]; (first | done | exact rfl)))); (simp only [rel.put_lit, List.set_cons_succ, List.set_cons_zero]))
  (apply rel.walk_val; (focus (intro wq hq hf; go_wp2; refine ⟨hq, Below.refl _ _, ?_, rfl⟩; (show rel.slot _ _ = _; simp only [rel.slot_lit, List.getD_cons_succ, List.getD_cons_zero]; (first | done | exact rfl)))); (simp only [rel.put_lit, List.set_cons_succ, List.set_cons_zero]))
  (apply rel.walk_val; (focus (intro wq hq hf; go_wp2; refine ⟨hq, Below.refl _ _, ?_, rfl⟩; (show rel.slot _ _ = _; simp only [rel.slot_lit, List.getD_cons_succ, List.getD_cons_zero]; (first | done | exact rfl)))); (simp only [rel.put_lit, List.set_cons_succ, List.set_cons_zero]))
  (apply rel.walk_val; (focus (intro wq hq hf; go_wp2; refine ⟨hq, Below.refl _ _, ?_, rfl⟩; (show rel.slot _ _ = _; simp only [rel.slot_lit, List.getD_cons_succ, List.getD_cons_zero]; (first | done | exact rfl)))); (simp only [rel.put_lit, List.set_cons_succ, List.set_cons_zero]))
  (apply rel.walk_val; (focus (intro wq hq hf; go_wp2; refine ⟨hq, Below.refl _ _, ?_, rfl⟩; (show rel.slot _ _ = _; simp only [rel.slot_lit, List.getD_cons_succ, List.getD_cons_zero]; (first | done | exact rfl)))); (simp only [rel.put_lit, List.set_cons_succ, List.set_cons_zero]))
  (apply rel.walk_val; (focus (intro wq hq hf; go_wp2; refine ⟨hq, Below.refl _ _, ?_, rfl⟩; (show rel.slot _ _ = _; simp only [rel.slot_lit, List.getD_cons_succ, List.getD_cons_zero]; (first | done | exact rfl)))); (simp only [rel.put_lit, List.set_cons_succ, List.set_cons_zero]))
  (apply rel.walk_val; (focus (intro wq hq hf; go_wp2; refine ⟨hq, Below.refl _ _, ?_, rfl⟩; (show rel.slot _ _ = _; simp only [rel.slot_lit, List.getD_cons_succ, List.getD_cons_zero]; (first | done | exact rfl)))); (simp only [rel.put_lit, List.set_cons_succ, List.set_cons_zero]))
  (apply rel.walk_val; (focus (intro wq hq hf; go_wp2; refine ⟨hq, Below.refl _ _, ?_, rfl⟩; (show rel.slot _ _ = _; simp only [rel.slot_lit, List.getD_cons_succ, List.getD_cons_zero]; (first | done | exact rfl)))); (simp only [rel.put_lit, List.set_cons_succ, List.set_cons_zero]))
  (apply rel.walk_val; (focus (intro wq hq hf; go_wp2; refine ⟨hq, Below.refl _ _, ?_, rfl⟩; (show rel.slot _ _ = _; simp only [rel.slot_lit, List.getD_cons_succ, List.getD_cons_zero]; (first | done | exact rfl)))); (simp only [rel.put_lit, List.set_cons_succ, List.set_cons_zero]))
  (apply rel.walk_val; (focus (intro wq hq hf; go_wp2; refine ⟨hq, Below.refl _ _, ?_, rfl⟩; (show rel.slot _ _ = _; simp only [rel.slot_lit, List.getD_cons_succ, List.getD_cons_zero]; (first | done | exact rfl)))); (simp only [rel.put_lit, List.set_cons_succ, List.set_cons_zero]))
  (apply rel.walk_val; (focus (intro wq hq hf; go_wp2; refine ⟨hq, Below.refl _ _, ?_, rfl⟩; (show rel.slot _ _ = _; simp only [rel.slot_lit, List.getD_cons_succ, List.getD_cons_zero]; (first | done | exact rfl)))); (simp only [rel.put_lit, List.set_cons_succ, List.set_cons_zero]))
  (apply rel.walk_val; (focus (intro wq hq hf; go_wp2; refine ⟨hq, Below.refl _ _, ?_, rfl⟩; (show rel.slot _ _ = _; simp only [rel.slot_lit, List.getD_cons_succ, List.getD_cons_zero]; (first | done | exact rfl)))); (simp only [rel.put_lit, List.set_cons_succ, List.set_cons_zero]))
  (apply rel.walk_val; (focus (intro wq hq hf; go_wp2; refine ⟨hq, Below.refl _ _, ?_, rfl⟩; (show rel.slot _ _ = _; simp only [rel.slot_lit, List.getD_cons_succ, List.getD_cons_zero]; (first | done | exact rfl)))); (simp only [rel.put_lit, List.set_cons_succ, List.set_cons_zero]))
  (apply rel.walk_val; (focus (intro wq hq hf; go_wp2; refine ⟨hq, Below.refl _ _, ?_, rfl⟩; (show rel.slot _ _ = _; simp only [rel.slot_lit, List.getD_cons_succ, List.getD_cons_zero]; (first | done | exact rfl)))); (simp only [rel.put_lit, List.set_cons_succ, List.set_cons_zero]))
  (apply rel.walk_val; (focus (intro wq hq hf; go_wp2; refine ⟨hq, Below.refl _ _, ?_, rfl⟩; (show rel.slot _ _ = _; simp only [rel.slot_lit, List.getD_cons_succ, List.getD_cons_zero]; (first | done | exact rfl)))); (simp only [rel.put_lit, List.set_cons_succ, List.set_cons_zero]))
  (apply rel.walk_val; (focus (intro wq hq hf; go_wp2; refine ⟨hq, Below.refl _ _, ?_, rfl⟩; (show rel.slot _ _ = _; simp only [rel.slot_lit, List.getD_cons_succ, List.getD_cons_zero]; (first | done | exact rfl)))); (simp only [rel.put_lit, List.set_cons_succ, List.set_cons_zero]))
  (apply rel.walk_val; (focus (intro wq hq hf; go_wp2; refine ⟨hq, Below.refl _ _, ?_, rfl⟩; (show rel.slot _ _ = _; simp only [rel.slot_lit, List.getD_cons_succ, List.getD_cons_zero]; (first | done | exact rfl)))); (simp only [rel.put_lit, List.set_cons_succ, List.set_cons_zero]))
  (apply rel.walk_val; (focus (intro wq hq hf; go_wp2; refine ⟨hq, Below.refl _ _, ?_, rfl⟩; (show rel.slot _ _ = _; simp only [rel.slot_lit, List.getD_cons_succ, List.getD_cons_zero]; (first | done | exact rfl)))); (simp only [rel.put_lit, List.set_cons_succ, List.set_cons_zero]))
  (apply rel.walk_val; (focus (intro wq hq hf; go_wp2; refine ⟨hq, Below.refl _ _, ?_, rfl⟩; (show rel.slot _ _ = _; simp only [rel.slot_lit, List.getD_cons_succ, List.getD_cons_zero]; (first | done | exact rfl)))); (simp only [rel.put_lit, List.set_cons_succ, List.set_cons_zero]))
  (apply rel.walk_val; (focus (intro wq hq hf; go_wp2; refine ⟨hq, Below.refl _ _, ?_, rfl⟩; (show rel.slot _ _ = _; simp only [rel.slot_lit, List.getD_cons_succ, List.getD_cons_zero]; (first | done | exact rfl)))); (simp only [rel.put_lit, List.set_cons_succ, List.set_cons_zero]))
  (apply rel.walk_val; (focus (intro wq hq hf; go_wp2; refine ⟨hq, Below.refl _ _, ?_, rfl⟩; (show rel.slot _ _ = _; simp only [rel.slot_lit, List.getD_cons_succ, List.getD_cons_zero]; (first | done | exact rfl)))); (simp only [rel.put_lit, List.set_cons_succ, List.set_cons_zero]))
  (apply rel.walk_val; (focus (intro wq hq hf; go_wp2; refine ⟨hq, Below.refl _ _, ?_, rfl⟩; (show rel.slot _ _ = _; simp only [rel.slot_lit, List.getD_cons_succ, List.getD_cons_zero]; (first | done | exact rfl)))); (simp only [rel.put_lit, List.set_cons_succ, List.set_cons_zero]))
  (apply rel.walk_val; (focus (intro wq hq hf; go_wp2; refine ⟨hq, Below.refl _ _, ?_, rfl⟩; (show rel.slot _ _ = _; simp only [rel.slot_lit, List.getD_cons_succ, List.getD_cons_zero]; (first | done | exact rfl)))); (simp only [rel.put_lit, List.set_cons_succ, List.set_cons_zero]))
  refine rel.walk_nil ?_
  intro W30 kwW30 hF
  clear hF
  replace i0 := i0.on kwW30
  replace f8 := f8.on kwW30
  replace B10 := B10.on kwW30
  replace f19 := f19.on kwW30
  replace hb := hb.trans (kwW30.mono hb.size)
  refine hK29.out _ _ ?_
  refine wp_cond_false rfl ?_
  refine wp_skip ?_
  refine hK28.out _ _ ?_
  refine wp_seq_k fun K31 hK31 => ?_
  replace hK31 := Lib.hid hK31
  have z32 := lst.IsList.nil W30 W30.heap.size
  -- region 10 (low.go:95)
  apply rel.seq_tail (hn := by decide) (C := fun w' => Below W30.heap.size W30 w') (X := fun w w' => Below w.heap.size w w') 2 (by kernel_rfl) (by kernel_rfl) (Below.refl _ _)
  ((apply rel.walk_val; (focus (intro wq hq hf; (obtain ⟨d0, d1⟩ := ((B10).below hq (B10).lt).cells2); go_wp2; refine ⟨hq, Below.refl _ _, ?_, rfl⟩; (show rel.slot _ _ = _; simp only [rel.slot_lit, List.getD_cons_succ, List.getD_cons_zero]; (first | done | exact rfl)))); (simp only [rel.put_lit, List.set_cons_succ, List.set_cons_zero])))
  (apply rel.walk_val; (focus (intro wq hq hf; go_wp2_with (go_at_call 19; refine (lst.pop_none hnil.out (f8.on hq)).mono ?_; rintro e w'' ⟨rfl, hbb⟩); refine ⟨hq.trans (hbb.mono hq.size), hbb, ?_, rfl⟩; (show rel.slot _ _ = _; simp only [rel.slot_lit, List.getD_cons_succ, List.getD_cons_zero]; (first | done | exact rfl)))); (simp only [rel.put_lit, List.set_cons_succ, List.set_cons_zero]))
  refine rel.walk_nil ?_
  intro W33 kwW33 hF
  clear hF
  replace i0 := i0.on kwW33
  replace f8 := f8.on kwW33
  replace B10 := B10.on kwW33
  replace f19 := f19.on kwW33
  replace z32 := z32.on kwW33
  replace hb := hb.trans (kwW33.mono hb.size)
  simp only [List.drop_succ_cons, List.drop_zero]
  go_wp2
  obtain ⟨W34, hW34⟩ : ∃ x, (W33.alloc (.cells #[.pointer none, .int .i64 0] 26)) = x := ⟨_, rfl⟩
  have B35 : hp.Blk W34 (W33.heap.size) 26 [.pointer none, .int .i64 0] := by rw [← hW34]; (first | exact hp.Blk.newAt (by simp) | exact (hp.Blk.newAt (by simp)).alloc _ | exact ((hp.Blk.newAt (by simp)).alloc _).alloc _ | exact (((hp.Blk.newAt (by simp)).alloc _).alloc _).alloc _ | exact ((((hp.Blk.newAt (by simp)).alloc _).alloc _).alloc _).alloc _ | exact (((((hp.Blk.newAt (by simp)).alloc _).alloc _).alloc _).alloc _).alloc _)
  have kwW34 : Below W33.heap.size W33 W34 := by rw [← hW34]; ((repeat' (first | with_reducible exact Below.refl _ _ | with_reducible apply Below.setCell | with_reducible apply below_drewN | with_reducible apply Below.drew | with_reducible apply Below.alloc | with_reducible refine Below.trans ?_ (Below.mono (by assumption) ?_))) <;> (first | (simp; done) | (simp; omega) | omega))
  rw [hW34]
  clear hW34
  replace i0 := i0.on kwW34
  replace f8 := f8.on kwW34
  replace B10 := B10.on kwW34
  replace f19 := f19.on kwW34
  replace z32 := z32.on kwW34
  replace hb := hb.trans (kwW34.mono hb.size)
  refine hK31.out _ _ ?_
  refine wp_seq_k fun K36 hK36 => ?_
  replace hK36 := Lib.hid hK36
  refine wp_seq_k fun K37 hK37 => ?_
  replace hK37 := Lib.hid hK37
  -- region 11 (low.go:96)
  apply rel.seq (C := fun w' => Below W34.heap.size W34 w') (X := fun w w' => Below w.heap.size w w') (by kernel_rfl) (by kernel_rfl) (Below.refl _ _)
  (apply rel.walk_val; (focus (intro wq hq hf; go_wp2; refine ⟨hq, Below.refl _ _, ?_, rfl⟩; (show rel.slot _ _ = _; simp only [rel.slot_lit, List.getD_cons_succ, List.getD_cons_zero]; (first | done | exact rfl)))); (simp only [rel.put_lit, List.set_cons_succ, List.set_cons_zero]))
  (apply rel.walk_val; (focus (intro wq hq hf; go_wp2; refine ⟨hq, Below.refl _ _, ?_, rfl⟩; (show rel.slot _ _ = _; simp only [rel.slot_lit, List.getD_cons_succ, List.getD_cons_zero]; (first | done | exact rfl)))); (simp only [rel.put_lit, List.set_cons_succ, List.set_cons_zero]))
  (apply rel.walk_val; (focus (intro wq hq hf; (have e0 : (l0.length : Int) = 0 := by omega); go_wp2; refine ⟨hq, Below.refl _ _, ?_, rfl⟩; (show rel.slot _ _ = _; simp only [rel.slot_lit, List.getD_cons_succ, List.getD_cons_zero]; (first | done | exact rfl)))); (simp only [rel.put_lit, List.set_cons_succ, List.set_cons_zero]))
  refine rel.walk_nil ?_
  intro W38 kwW38 hF
  clear hF
  replace i0 := i0.on kwW38
  replace f8 := f8.on kwW38
  replace B10 := B10.on kwW38
  replace f19 := f19.on kwW38
  replace z32 := z32.on kwW38
  replace B35 := B35.on kwW38
  replace hb := hb.trans (kwW38.mono hb.size)
  refine hK37.out _ _ ?_
  refine wp_cond_true rfl ?_
  refine wp_seq_k fun K39 hK39 => ?_
  replace hK39 := Lib.hid hK39
  -- region 12 (low.go:97)
  apply rel.seq (C := fun w' => Below W38.heap.size W38 w') (X := fun w w' => Below w.heap.size w w') (by kernel_rfl) (by kernel_rfl) (Below.refl _ _)
  (apply rel.walk_val; (focus (intro wq hq hf; go_wp2; refine ⟨hq, Below.refl _ _, ?_, rfl⟩; (show rel.slot _ _ = _; simp only [rel.slot_lit, List.getD_cons_succ, List.getD_cons_zero]; (first | done | exact rfl)))); (simp only [rel.put_lit, List.set_cons_succ, List.set_cons_zero]))
  (apply rel.walk_val; (focus (intro wq hq hf; go_wp2; refine ⟨hq, Below.refl _ _, ?_, rfl⟩; (show rel.slot _ _ = _; simp only [rel.slot_lit, List.getD_cons_succ, List.getD_cons_zero]; (first | done | exact rfl)))); (simp only [rel.put_lit, List.set_cons_succ, List.set_cons_zero]))
  (apply rel.walk_val; (focus (intro wq hq hf; go_wp2; refine ⟨hq, Below.refl _ _, ?_, rfl⟩; (show rel.slot _ _ = _; simp only [rel.slot_lit, List.getD_cons_succ, List.getD_cons_zero]; (first | done | exact rfl)))); (simp only [rel.put_lit, List.set_cons_succ, List.set_cons_zero]))
  (apply rel.walk_val; (focus (intro wq hq hf; go_wp2; refine ⟨hq, Below.refl _ _, ?_, rfl⟩; (show rel.slot _ _ = _; simp only [rel.slot_lit, List.getD_cons_succ, List.getD_cons_zero]; (first | done | exact rfl)))); (simp only [rel.put_lit, List.set_cons_succ, List.set_cons_zero]))
  (apply rel.walk_val; (focus (intro wq hq hf; go_wp2; refine ⟨hq, Below.refl _ _, ?_, rfl⟩; (show rel.slot _ _ = _; simp only [rel.slot_lit, List.getD_cons_succ, List.getD_cons_zero]; (first | done | exact rfl)))); (simp only [rel.put_lit, List.set_cons_succ, List.set_cons_zero]))
  (apply rel.walk_val; (focus (intro wq hq hf; go_wp2; refine ⟨hq, Below.refl _ _, ?_, rfl⟩; (show rel.slot _ _ = _; simp only [rel.slot_lit, List.getD_cons_succ, List.getD_cons_zero]; (first | done | exact rfl)))); (simp only [rel.put_lit, List.set_cons_succ, List.set_cons_zero]))
  (apply rel.walk_val; (focus (intro wq hq hf; go_wp2; refine ⟨hq, Below.refl _ _, ?_, rfl⟩; (show rel.slot _ _ = _; simp only [rel.slot_lit, List.getD_cons_succ, List.getD_cons_zero]; (first | done | exact rfl)))); (simp only [rel.put_lit, List.set_cons_succ, List.set_cons_zero]))
  ((apply rel.walk_val; (focus (intro wq hq hf; (obtain ⟨d0, d1⟩ := ((B35).below hq (B35).lt).cells2); go_wp2; refine ⟨hq, Below.refl _ _, ?_, rfl⟩; (show rel.slot _ _ = _; simp only [rel.slot_lit, List.getD_cons_succ, List.getD_cons_zero]; (first | done | exact rfl)))); (simp only [rel.put_lit, List.set_cons_succ, List.set_cons_zero])))
  (apply rel.walk_val; (focus (intro wq hq hf; go_wp2_with (go_at_call 17; refine (lst.len_raw _ _ _).mono ?_; rintro e w'' ⟨rfl, hbb⟩); refine ⟨hq.trans (hbb.mono hq.size), hbb, ?_, rfl⟩; (show rel.slot _ _ = _; simp only [rel.slot_lit, List.getD_cons_succ, List.getD_cons_zero]; (first | done | exact rfl)))); (simp only [rel.put_lit, List.set_cons_succ, List.set_cons_zero]))
  (apply rel.walk_val; (focus (intro wq hq hf; go_wp2; refine ⟨hq, Below.refl _ _, ?_, rfl⟩; (show rel.slot _ _ = _; simp only [rel.slot_lit, List.getD_cons_succ, List.getD_cons_zero]; (first | done | exact rfl)))); (simp only [rel.put_lit, List.set_cons_succ, List.set_cons_zero]))
  (apply rel.walk_val; (focus (intro wq hq hf; go_wp2; refine ⟨hq, Below.refl _ _, ?_, rfl⟩; (show rel.slot _ _ = _; simp only [rel.slot_lit, List.getD_cons_succ, List.getD_cons_zero]; (first | done | exact rfl)))); (simp only [rel.put_lit, List.set_cons_succ, List.set_cons_zero]))
  (apply rel.walk_val; (focus (intro wq hq hf; go_wp2; refine ⟨hq, Below.refl _ _, ?_, rfl⟩; (show rel.slot _ _ = _; simp only [rel.slot_lit, List.getD_cons_succ, List.getD_cons_zero]; (first | done | exact rfl)))); (simp only [rel.put_lit, List.set_cons_succ, List.set_cons_zero]))
  refine rel.walk_nil ?_
  intro W40 kwW40 hF
  clear hF
  replace i0 := i0.on kwW40
  replace f8 := f8.on kwW40
  replace B10 := B10.on kwW40
  replace f19 := f19.on kwW40
  replace z32 := z32.on kwW40
  replace B35 := B35.on kwW40
  replace hb := hb.trans (kwW40.mono hb.size)
  refine hK39.out _ _ ?_
  refine wp_ret ?_
  go_ret
  exact ⟨rfl, hb⟩

end Go.Proofs.Ytkhnfkejmhhcjaa.listTells
