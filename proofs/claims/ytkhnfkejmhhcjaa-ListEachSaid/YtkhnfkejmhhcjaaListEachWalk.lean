/- The walk of ListEach. -/
import Derived.Test.YtkhnfkejmhhcjaaLstWalks
namespace Go.Proofs.Ytkhnfkejmhhcjaa.listEach
open Go Go.RowKit
set_option linter.unusedVariables false

/-- a*x + b -/
def fa (a b x : Int) : Int := wrap64 (wrap64 (a * x) + b)
def fgf (a b c d x : Int) : Int := fa c d (fa a b x)
theorem fa_wf (a b x : Int) : (Lit.int .i64 (fa a b x)).wf = true := wrap64_wf _

theorem fn_1 (a b : Int) (g g' : Nat) (w : World) (h : hp.Blk w g 3 [.int .i64 a]) (h' : hp.Blk w g' 3 [.int .i64 b]) : lst.Fn1 w (.func (.func 24) #[] #[.pointer (some ⟨g, 0, none⟩), .pointer (some ⟨g', 0, none⟩)]) (fun x => .int .i64 (fa a b x)) := by
  refine ⟨_, _, rfl, enters_of Try.func24 (by kernel_rfl) rfl, fun x w' hb => ?_⟩
  have c0 := (h.on hb).cell 0
  have c1 := (h'.on hb).cell 0
  simp only [List.getElem?_cons_zero] at c0 c1
  show Calls _ _ #[.int .i64 x, .pointer (some ⟨g, 0, none⟩), .pointer (some ⟨g', 0, none⟩)] _ _
  go_enter Try.func24, Try.ntmps24
  go_wp2
  go_ret
  exact ⟨rfl, Below.refl _ _⟩

theorem fn_2 (a b : Int) (g g' : Nat) (w : World) (h : hp.Blk w g 3 [.int .i64 a]) (h' : hp.Blk w g' 3 [.int .i64 b]) : lst.Fn1 w (.func (.func 25) #[] #[.pointer (some ⟨g, 0, none⟩), .pointer (some ⟨g', 0, none⟩)]) (fun x => .int .i64 (fa a b x)) := by
  refine ⟨_, _, rfl, enters_of Try.func25 (by kernel_rfl) rfl, fun x w' hb => ?_⟩
  have c0 := (h.on hb).cell 0
  have c1 := (h'.on hb).cell 0
  simp only [List.getElem?_cons_zero] at c0 c1
  show Calls _ _ #[.int .i64 x, .pointer (some ⟨g, 0, none⟩), .pointer (some ⟨g', 0, none⟩)] _ _
  go_enter Try.func25, Try.ntmps25
  go_wp2
  go_ret
  exact ⟨rfl, Below.refl _ _⟩

set_option maxHeartbeats 4000000 in
theorem fn_gf {a b c d : Int} {g g' : Nat} {fv gv : Value} {w : World} (h : hp.Blk w g 42 [gv]) (h' : hp.Blk w g' 42 [fv]) (hg1 : lst.Fn1 w gv (fun x => .int .i64 (fa c d x))) (hf1 : lst.Fn1 w fv (fun x => .int .i64 (fa a b x))) :
    lst.Fn1 w (.func (.func 27) #[] #[.pointer (some ⟨g, 0, none⟩), .pointer (some ⟨g', 0, none⟩)]) (fun x => .int .i64 (fgf a b c d x)) := by
  obtain ⟨k1, cap1, rfl, eg1, hc1⟩ := hg1
  obtain ⟨k2, cap2, rfl, eg2, hc2⟩ := hf1
  refine ⟨_, _, rfl, enters_of Try.func27 (by kernel_rfl) rfl, fun x w' hb => ?_⟩
  have h1 := h.on hb
  have h2 := h'.on hb
  have hx2 := fun w1 (h : Below w'.heap.size w' w1) => hc2 x w1 (hb.trans (h.mono hb.size))
  have hx1 := fun w1 (h : Below w'.heap.size w' w1) => hc1 (fa a b x) w1 (hb.trans (h.mono hb.size))
  dsimp only at hx1 hx2
  show Calls _ _ #[.int .i64 x, .pointer (some ⟨g, 0, none⟩), .pointer (some ⟨g', 0, none⟩)] _ (fun e w'' => e = .returned (.int .i64 (fa c d (fa a b x))) ∧ Below w'.heap.size w' w'')
  generalize fa c d (fa a b x) = z at hx1 ⊢
  generalize fa a b x = y at hx1 hx2
  go_enter Try.func27, Try.ntmps27
  go_wp2_with fail
  apply rel.region (C := fun w1 => Below w'.heap.size w' w1) (X := fun w w' => Below w.heap.size w w') (by kernel_rfl) (by kernel_rfl) (by kernel_rfl) ((Below.refl _ _).drew)
  (apply rel.walk_val; (focus (intro wq hq hf; (have d0 := (h1.on hq).cell 0; simp only [List.getElem?_cons_zero] at d0); go_wp2; refine ⟨hq, Below.refl _ _, ?_, rfl⟩; (show rel.slot _ _ = _; simp only [rel.slot_lit, List.getD_cons_succ, List.getD_cons_zero]; (first | done | exact rfl)))); (simp only [rel.put_lit, List.set_cons_succ, List.set_cons_zero]))
  (apply rel.walk_val; (focus (intro wq hq hf; (have d0 := (h2.on hq).cell 0; simp only [List.getElem?_cons_zero] at d0); go_wp2; refine ⟨hq, Below.refl _ _, ?_, rfl⟩; (show rel.slot _ _ = _; simp only [rel.slot_lit, List.getD_cons_succ, List.getD_cons_zero]; (first | done | exact rfl)))); (simp only [rel.put_lit, List.set_cons_succ, List.set_cons_zero]))
  (apply rel.walk_val; (focus (intro wq hq hf; go_wp2; refine ⟨hq, Below.refl _ _, ?_, rfl⟩; (show rel.slot _ _ = _; simp only [rel.slot_lit, List.getD_cons_succ, List.getD_cons_zero]; (first | done | exact rfl)))); (simp only [rel.put_lit, List.set_cons_succ, List.set_cons_zero]))
  (apply rel.walk_val; (focus (intro wq hq hf; go_wp2_with (refine (hx2 _ hq).mono ?_; rintro e w'' ⟨rfl, hb⟩); refine ⟨hq.trans (hb.mono hq.size), hb, ?_, rfl⟩; (show rel.slot _ _ = _; simp only [rel.slot_lit, List.getD_cons_succ, List.getD_cons_zero]; (first | done | exact rfl)))); (simp only [rel.put_lit, List.set_cons_succ, List.set_cons_zero]))
  (apply rel.walk_val; (focus (intro wq hq hf; go_wp2_with (refine (hx1 _ hq).mono ?_; rintro e w'' ⟨rfl, hb⟩); refine ⟨hq.trans (hb.mono hq.size), hb, ?_, rfl⟩; (show rel.slot _ _ = _; simp only [rel.slot_lit, List.getD_cons_succ, List.getD_cons_zero]; (first | done | exact rfl)))); (simp only [rel.put_lit, List.set_cons_succ, List.set_cons_zero]))
  (apply rel.walk_val; (focus (intro wq hq hf; go_wp2; refine ⟨hq, Below.refl _ _, ?_, rfl⟩; (show rel.slot _ _ = _; simp only [rel.slot_lit, List.getD_cons_succ, List.getD_cons_zero]; (first | done | exact rfl)))); (simp only [rel.put_lit, List.set_cons_succ, List.set_cons_zero]))
  refine rel.walk_nil ?_
  intro w9 K9 _
  go_wp2
  go_ret
  exact ⟨rfl, K9⟩

set_option maxHeartbeats 8000000 in
theorem walk (v0 : Value) (l0 : List Int) (v1 : Value) (l1 : List Int) (x2 : Int) (x3 : Int) (x4 : Int) (x5 : Int) (w : World) (i0 : hp.IsInts w w.heap.size v0 l0) (i1 : hp.IsInts w w.heap.size v1 l1) (w2 : (Lit.int .i64 x2).wf = true) (w3 : (Lit.int .i64 x3).wf = true) (w4 : (Lit.int .i64 x4).wf = true) (w5 : (Lit.int .i64 x5).wf = true) (bd0 : l0.length ≤ 17592186043904) (bd1 : l1.length ≤ 17592186043904)  :
    Calls Try.prog 6 #[v0, v1, .int .i64 x2, .int .i64 x3, .int .i64 x4, .int .i64 x5] w fun e w' => e = .returned (.bool true) ∧ Below w.heap.size w w' := by
  have hb : Below w.heap.size w w := Below.refl _ _
  have hsf := lst.store_func
  obtain ⟨a0, c0, he0, hr0⟩ := i0
  have i0 : hp.IsInts w w.heap.size (.slice a0 l0.length c0) l0 := ⟨a0, c0, rfl, hr0⟩
  subst he0
  clear hr0
  obtain ⟨a1, c1, he1, hr1⟩ := i1
  have i1 : hp.IsInts w w.heap.size (.slice a1 l1.length c1) l1 := ⟨a1, c1, rfl, hr1⟩
  subst he1
  clear hr1
  go_enter Try.func6, Try.ntmps6
  refine wp_seq_k fun K1 hK1 => ?_
  replace hK1 := Lib.hid hK1
  -- region 0 (low.go:135)
  apply rel.seq_tail (hn := by decide) (C := fun w' => Below w.heap.size w w') (X := fun w w' => Below w.heap.size w w') 0 (by kernel_rfl) (by kernel_rfl) (Below.refl _ _)
  refine rel.walk_nil ?_
  intro W2 kwW2 hF
  clear hF
  replace i0 := i0.on kwW2
  replace i1 := i1.on kwW2
  replace hb := hb.trans (kwW2.mono hb.size)
  simp only [List.drop_zero]
  go_wp2
  obtain ⟨W3, hW3⟩ : ∃ x, ((((W2.alloc (.cells #[.int .i64 x2] 3)).alloc (.cells #[.int .i64 x3] 3)).alloc (.cells #[.int .i64 x4] 3)).alloc (.cells #[.int .i64 x5] 3)) = x := ⟨_, rfl⟩
  have B4 : hp.Blk W3 (W2.heap.size) 3 [.int .i64 x2] := by rw [← hW3]; (first | exact hp.Blk.newAt (by simp) | exact (hp.Blk.newAt (by simp)).alloc _ | exact ((hp.Blk.newAt (by simp)).alloc _).alloc _ | exact (((hp.Blk.newAt (by simp)).alloc _).alloc _).alloc _ | exact ((((hp.Blk.newAt (by simp)).alloc _).alloc _).alloc _).alloc _ | exact (((((hp.Blk.newAt (by simp)).alloc _).alloc _).alloc _).alloc _).alloc _)
  have B5 : hp.Blk W3 (W2.heap.size + 1) 3 [.int .i64 x3] := by rw [← hW3]; (first | exact hp.Blk.newAt (by simp) | exact (hp.Blk.newAt (by simp)).alloc _ | exact ((hp.Blk.newAt (by simp)).alloc _).alloc _ | exact (((hp.Blk.newAt (by simp)).alloc _).alloc _).alloc _ | exact ((((hp.Blk.newAt (by simp)).alloc _).alloc _).alloc _).alloc _ | exact (((((hp.Blk.newAt (by simp)).alloc _).alloc _).alloc _).alloc _).alloc _)
  have B6 : hp.Blk W3 (W2.heap.size + 1 + 1) 3 [.int .i64 x4] := by rw [← hW3]; (first | exact hp.Blk.newAt (by simp) | exact (hp.Blk.newAt (by simp)).alloc _ | exact ((hp.Blk.newAt (by simp)).alloc _).alloc _ | exact (((hp.Blk.newAt (by simp)).alloc _).alloc _).alloc _ | exact ((((hp.Blk.newAt (by simp)).alloc _).alloc _).alloc _).alloc _ | exact (((((hp.Blk.newAt (by simp)).alloc _).alloc _).alloc _).alloc _).alloc _)
  have B7 : hp.Blk W3 (W2.heap.size + 1 + 1 + 1) 3 [.int .i64 x5] := by rw [← hW3]; (first | exact hp.Blk.newAt (by simp) | exact (hp.Blk.newAt (by simp)).alloc _ | exact ((hp.Blk.newAt (by simp)).alloc _).alloc _ | exact (((hp.Blk.newAt (by simp)).alloc _).alloc _).alloc _ | exact ((((hp.Blk.newAt (by simp)).alloc _).alloc _).alloc _).alloc _ | exact (((((hp.Blk.newAt (by simp)).alloc _).alloc _).alloc _).alloc _).alloc _)
  have kwW3 : Below W2.heap.size W2 W3 := by rw [← hW3]; ((repeat' (first | with_reducible exact Below.refl _ _ | with_reducible apply Below.setCell | with_reducible apply below_drewN | with_reducible apply Below.drew | with_reducible apply Below.alloc | with_reducible refine Below.trans ?_ (Below.mono (by assumption) ?_))) <;> (first | (simp; done) | (simp; omega) | omega))
  rw [hW3]
  clear hW3
  replace i0 := i0.on kwW3
  replace i1 := i1.on kwW3
  replace hb := hb.trans (kwW3.mono hb.size)
  refine hK1.out _ _ ?_
  refine wp_seq_k fun K8 hK8 => ?_
  replace hK8 := Lib.hid hK8
  -- region 1 (low.go:136)
  apply rel.seq (C := fun w' => Below W3.heap.size W3 w') (X := fun w w' => Below w.heap.size w w') (by kernel_rfl) (by kernel_rfl) (Below.refl _ _)
  (apply rel.walk_val; (focus (intro wq hq hf; go_wp2_with (go_at_call 12; refine (lst.listed_any _).mono ?_; rintro e w'' ⟨rfl, hbb⟩); refine ⟨hq.trans (hbb.mono hq.size), hbb, ?_, rfl⟩; (show rel.slot _ _ = _; simp only [rel.slot_lit, List.getD_cons_succ, List.getD_cons_zero]; (first | done | exact rfl)))); (simp only [rel.put_lit, List.set_cons_succ, List.set_cons_zero]))
  (apply rel.walk_val; (focus (intro wq hq hf; go_wp2; refine ⟨hq, Below.refl _ _, ?_, rfl⟩; (show rel.slot _ _ = _; simp only [rel.slot_lit, List.getD_cons_succ, List.getD_cons_zero]; (first | done | exact rfl)))); (simp only [rel.put_lit, List.set_cons_succ, List.set_cons_zero]))
  refine rel.walk_nil ?_
  intro W9 kwW9 hF
  clear hF
  replace i0 := i0.on kwW9
  replace i1 := i1.on kwW9
  replace B4 := B4.on kwW9
  replace B5 := B5.on kwW9
  replace B6 := B6.on kwW9
  replace B7 := B7.on kwW9
  replace hb := hb.trans (kwW9.mono hb.size)
  refine hK8.out _ _ ?_
  refine wp_seq_k fun K10 hK10 => ?_
  replace hK10 := Lib.hid hK10
  refine wp_seq_k fun K11 hK11 => ?_
  replace hK11 := Lib.hid hK11
  -- region 2 (low.go:137)
  apply rel.seq (C := fun w' => Below W9.heap.size W9 w') (X := fun w w' => Below w.heap.size w w') (by kernel_rfl) (by kernel_rfl) (Below.refl _ _)
  (apply rel.walk_val; (focus (intro wq hq hf; go_wp2; refine ⟨hq, Below.refl _ _, ?_, rfl⟩; (show rel.slot _ _ = _; simp only [rel.slot_lit, List.getD_cons_succ, List.getD_cons_zero]; (first | done | exact rfl)))); (simp only [rel.put_lit, List.set_cons_succ, List.set_cons_zero]))
  (apply rel.walk_val; (focus (intro wq hq hf; go_wp2; refine ⟨hq, Below.refl _ _, ?_, rfl⟩; (show rel.slot _ _ = _; simp only [rel.slot_lit, List.getD_cons_succ, List.getD_cons_zero]; (first | done | exact rfl)))); (simp only [rel.put_lit, List.set_cons_succ, List.set_cons_zero]))
  refine rel.walk_nil ?_
  intro W12 kwW12 hF
  clear hF
  replace i0 := i0.on kwW12
  replace i1 := i1.on kwW12
  replace B4 := B4.on kwW12
  replace B5 := B5.on kwW12
  replace B6 := B6.on kwW12
  replace B7 := B7.on kwW12
  replace hb := hb.trans (kwW12.mono hb.size)
  refine hK11.out _ _ ?_
  refine wp_cond_false rfl ?_
  refine wp_skip ?_
  refine hK10.out _ _ ?_
  refine wp_seq_k fun K13 hK13 => ?_
  replace hK13 := Lib.hid hK13
  -- region 4 (low.go:140)
  apply rel.seq_tail (hn := by decide) (C := fun w' => Below W12.heap.size W12 w') (X := fun w w' => Below w.heap.size w w') 1 (by kernel_rfl) (by kernel_rfl) (Below.refl _ _)
  (apply rel.walk_val; (focus (intro wq hq hf; go_wp2; refine ⟨hq, Below.refl _ _, ?_, rfl⟩; (show rel.slot _ _ = _; simp only [rel.slot_lit, List.getD_cons_succ, List.getD_cons_zero]; (first | done | exact rfl)))); (simp only [rel.put_lit, List.set_cons_succ, List.set_cons_zero]))
  refine rel.walk_nil ?_
  intro W14 kwW14 hF
  clear hF
  replace i0 := i0.on kwW14
  replace i1 := i1.on kwW14
  replace B4 := B4.on kwW14
  replace B5 := B5.on kwW14
  replace B6 := B6.on kwW14
  replace B7 := B7.on kwW14
  replace hb := hb.trans (kwW14.mono hb.size)
  simp only [List.drop_succ_cons, List.drop_zero]
  go_wp2
  obtain ⟨W15, hW15⟩ : ∃ x, (W14.alloc (.cells #[.func (.func 24) #[] #[.pointer (some ⟨W2.heap.size, 0, none⟩), .pointer (some ⟨W2.heap.size + 1, 0, none⟩)]] 42)) = x := ⟨_, rfl⟩
  have B16 : hp.Blk W15 (W14.heap.size) 42 [.func (.func 24) #[] #[.pointer (some ⟨W2.heap.size, 0, none⟩), .pointer (some ⟨W2.heap.size + 1, 0, none⟩)]] := by rw [← hW15]; (first | exact hp.Blk.newAt (by simp) | exact (hp.Blk.newAt (by simp)).alloc _ | exact ((hp.Blk.newAt (by simp)).alloc _).alloc _ | exact (((hp.Blk.newAt (by simp)).alloc _).alloc _).alloc _ | exact ((((hp.Blk.newAt (by simp)).alloc _).alloc _).alloc _).alloc _ | exact (((((hp.Blk.newAt (by simp)).alloc _).alloc _).alloc _).alloc _).alloc _)
  have kwW15 : Below W14.heap.size W14 W15 := by rw [← hW15]; ((repeat' (first | with_reducible exact Below.refl _ _ | with_reducible apply Below.setCell | with_reducible apply below_drewN | with_reducible apply Below.drew | with_reducible apply Below.alloc | with_reducible refine Below.trans ?_ (Below.mono (by assumption) ?_))) <;> (first | (simp; done) | (simp; omega) | omega))
  rw [hW15]
  clear hW15
  replace i0 := i0.on kwW15
  replace i1 := i1.on kwW15
  replace B4 := B4.on kwW15
  replace B5 := B5.on kwW15
  replace B6 := B6.on kwW15
  replace B7 := B7.on kwW15
  replace hb := hb.trans (kwW15.mono hb.size)
  have F17 := fn_1 x2 x3 _ _ W15 B4 B5
  refine hK13.out _ _ ?_
  refine wp_seq_k fun K18 hK18 => ?_
  replace hK18 := Lib.hid hK18
  -- region 5 (low.go:141)
  apply rel.seq_tail (hn := by decide) (C := fun w' => Below W15.heap.size W15 w') (X := fun w w' => Below w.heap.size w w') 1 (by kernel_rfl) (by kernel_rfl) (Below.refl _ _)
  (apply rel.walk_val; (focus (intro wq hq hf; go_wp2; refine ⟨hq, Below.refl _ _, ?_, rfl⟩; (show rel.slot _ _ = _; simp only [rel.slot_lit, List.getD_cons_succ, List.getD_cons_zero]; (first | done | exact rfl)))); (simp only [rel.put_lit, List.set_cons_succ, List.set_cons_zero]))
  refine rel.walk_nil ?_
  intro W19 kwW19 hF
  clear hF
  replace i0 := i0.on kwW19
  replace i1 := i1.on kwW19
  replace B4 := B4.on kwW19
  replace B5 := B5.on kwW19
  replace B6 := B6.on kwW19
  replace B7 := B7.on kwW19
  replace B16 := B16.on kwW19
  replace F17 := F17.on kwW19
  replace hb := hb.trans (kwW19.mono hb.size)
  simp only [List.drop_succ_cons, List.drop_zero]
  go_wp2
  obtain ⟨W20, hW20⟩ : ∃ x, (W19.alloc (.cells #[.func (.func 25) #[] #[.pointer (some ⟨W2.heap.size + 1 + 1, 0, none⟩), .pointer (some ⟨W2.heap.size + 1 + 1 + 1, 0, none⟩)]] 42)) = x := ⟨_, rfl⟩
  have B21 : hp.Blk W20 (W19.heap.size) 42 [.func (.func 25) #[] #[.pointer (some ⟨W2.heap.size + 1 + 1, 0, none⟩), .pointer (some ⟨W2.heap.size + 1 + 1 + 1, 0, none⟩)]] := by rw [← hW20]; (first | exact hp.Blk.newAt (by simp) | exact (hp.Blk.newAt (by simp)).alloc _ | exact ((hp.Blk.newAt (by simp)).alloc _).alloc _ | exact (((hp.Blk.newAt (by simp)).alloc _).alloc _).alloc _ | exact ((((hp.Blk.newAt (by simp)).alloc _).alloc _).alloc _).alloc _ | exact (((((hp.Blk.newAt (by simp)).alloc _).alloc _).alloc _).alloc _).alloc _)
  have kwW20 : Below W19.heap.size W19 W20 := by rw [← hW20]; ((repeat' (first | with_reducible exact Below.refl _ _ | with_reducible apply Below.setCell | with_reducible apply below_drewN | with_reducible apply Below.drew | with_reducible apply Below.alloc | with_reducible refine Below.trans ?_ (Below.mono (by assumption) ?_))) <;> (first | (simp; done) | (simp; omega) | omega))
  rw [hW20]
  clear hW20
  replace i0 := i0.on kwW20
  replace i1 := i1.on kwW20
  replace B4 := B4.on kwW20
  replace B5 := B5.on kwW20
  replace B6 := B6.on kwW20
  replace B7 := B7.on kwW20
  replace B16 := B16.on kwW20
  replace F17 := F17.on kwW20
  replace hb := hb.trans (kwW20.mono hb.size)
  have F22 := fn_2 x4 x5 _ _ W20 B6 B7
  refine hK18.out _ _ ?_
  refine wp_seq_k fun K23 hK23 => ?_
  replace hK23 := Lib.hid hK23
  -- region 6 (low.go:142)
  apply rel.seq_tail (hn := by decide) (C := fun w' => Below W20.heap.size W20 w') (X := fun w w' => Below w.heap.size w w') 2 (by kernel_rfl) (by kernel_rfl) (Below.refl _ _)
  (apply rel.walk_val; (focus (intro wq hq hf; go_wp2; refine ⟨hq, Below.refl _ _, ?_, rfl⟩; (show rel.slot _ _ = _; simp only [rel.slot_lit, List.getD_cons_succ, List.getD_cons_zero]; (first | done | exact rfl)))); (simp only [rel.put_lit, List.set_cons_succ, List.set_cons_zero]))
  (apply rel.walk_rel (fun u w' => lst.IsList w' w'.heap.size u (l0)) ⟨_, rfl⟩ (fun u w1 w2 h1 h2 => h2.on h1); (focus (intro wq hq hf; go_wp2_with (go_at_call 13; refine (lst.of_any _ l0 _ (i0.on hq) (by first | omega | simp)).mono ?_; rintro e w'' ⟨⟨u, rfl, hu⟩, hbb⟩); refine ⟨hq.trans (hbb.mono hq.size), hbb, ?_, rfl⟩; (show lst.IsList _ _ (rel.slot _ _) _; simp only [rel.slot_lit, List.getD_cons_succ, List.getD_cons_zero]; exact hu))); (intro u wu _ hu; obtain ⟨p24, rfl, -, -⟩ := hu; (simp only [rel.put_lit, List.set_cons_succ, List.set_cons_zero])))
  refine rel.walk_nil ?_
  intro W25 kwW25 hF
  have f26 : lst.IsList W25 W25.heap.size (lst.lv p24 l0.length) l0 := rel.fact hF 0 rfl
  clear hF
  replace i0 := i0.on kwW25
  replace i1 := i1.on kwW25
  replace B4 := B4.on kwW25
  replace B5 := B5.on kwW25
  replace B6 := B6.on kwW25
  replace B7 := B7.on kwW25
  replace B16 := B16.on kwW25
  replace F17 := F17.on kwW25
  replace B21 := B21.on kwW25
  replace F22 := F22.on kwW25
  replace hb := hb.trans (kwW25.mono hb.size)
  simp only [List.drop_succ_cons, List.drop_zero]
  go_wp2
  obtain ⟨W27, hW27⟩ : ∃ x, (W25.alloc (.cells #[.pointer p24, .int .i64 l0.length] 26)) = x := ⟨_, rfl⟩
  have B28 : hp.Blk W27 (W25.heap.size) 26 [.pointer p24, .int .i64 l0.length] := by rw [← hW27]; (first | exact hp.Blk.newAt (by simp) | exact (hp.Blk.newAt (by simp)).alloc _ | exact ((hp.Blk.newAt (by simp)).alloc _).alloc _ | exact (((hp.Blk.newAt (by simp)).alloc _).alloc _).alloc _ | exact ((((hp.Blk.newAt (by simp)).alloc _).alloc _).alloc _).alloc _ | exact (((((hp.Blk.newAt (by simp)).alloc _).alloc _).alloc _).alloc _).alloc _)
  have kwW27 : Below W25.heap.size W25 W27 := by rw [← hW27]; ((repeat' (first | with_reducible exact Below.refl _ _ | with_reducible apply Below.setCell | with_reducible apply below_drewN | with_reducible apply Below.drew | with_reducible apply Below.alloc | with_reducible refine Below.trans ?_ (Below.mono (by assumption) ?_))) <;> (first | (simp; done) | (simp; omega) | omega))
  rw [hW27]
  clear hW27
  replace i0 := i0.on kwW27
  replace i1 := i1.on kwW27
  replace B4 := B4.on kwW27
  replace B5 := B5.on kwW27
  replace B6 := B6.on kwW27
  replace B7 := B7.on kwW27
  replace B16 := B16.on kwW27
  replace F17 := F17.on kwW27
  replace B21 := B21.on kwW27
  replace F22 := F22.on kwW27
  replace f26 := f26.on kwW27
  replace hb := hb.trans (kwW27.mono hb.size)
  refine hK23.out _ _ ?_
  refine wp_seq_k fun K29 hK29 => ?_
  replace hK29 := Lib.hid hK29
  -- region 7 (low.go:143)
  apply rel.seq_tail (hn := by decide) (C := fun w' => Below W27.heap.size W27 w') (X := fun w w' => Below w.heap.size w w') 2 (by kernel_rfl) (by kernel_rfl) (Below.refl _ _)
  (apply rel.walk_val; (focus (intro wq hq hf; go_wp2; refine ⟨hq, Below.refl _ _, ?_, rfl⟩; (show rel.slot _ _ = _; simp only [rel.slot_lit, List.getD_cons_succ, List.getD_cons_zero]; (first | done | exact rfl)))); (simp only [rel.put_lit, List.set_cons_succ, List.set_cons_zero]))
  (apply rel.walk_rel (fun u w' => lst.IsList w' w'.heap.size u (l1)) ⟨_, rfl⟩ (fun u w1 w2 h1 h2 => h2.on h1); (focus (intro wq hq hf; go_wp2_with (go_at_call 13; refine (lst.of_any _ l1 _ (i1.on hq) (by first | omega | simp)).mono ?_; rintro e w'' ⟨⟨u, rfl, hu⟩, hbb⟩); refine ⟨hq.trans (hbb.mono hq.size), hbb, ?_, rfl⟩; (show lst.IsList _ _ (rel.slot _ _) _; simp only [rel.slot_lit, List.getD_cons_succ, List.getD_cons_zero]; exact hu))); (intro u wu _ hu; obtain ⟨p30, rfl, -, -⟩ := hu; (simp only [rel.put_lit, List.set_cons_succ, List.set_cons_zero])))
  refine rel.walk_nil ?_
  intro W31 kwW31 hF
  have f32 : lst.IsList W31 W31.heap.size (lst.lv p30 l1.length) l1 := rel.fact hF 0 rfl
  clear hF
  replace i0 := i0.on kwW31
  replace i1 := i1.on kwW31
  replace B4 := B4.on kwW31
  replace B5 := B5.on kwW31
  replace B6 := B6.on kwW31
  replace B7 := B7.on kwW31
  replace B16 := B16.on kwW31
  replace F17 := F17.on kwW31
  replace B21 := B21.on kwW31
  replace F22 := F22.on kwW31
  replace f26 := f26.on kwW31
  replace B28 := B28.on kwW31
  replace hb := hb.trans (kwW31.mono hb.size)
  simp only [List.drop_succ_cons, List.drop_zero]
  go_wp2
  obtain ⟨W33, hW33⟩ : ∃ x, (W31.alloc (.cells #[.pointer p30, .int .i64 l1.length] 26)) = x := ⟨_, rfl⟩
  have B34 : hp.Blk W33 (W31.heap.size) 26 [.pointer p30, .int .i64 l1.length] := by rw [← hW33]; (first | exact hp.Blk.newAt (by simp) | exact (hp.Blk.newAt (by simp)).alloc _ | exact ((hp.Blk.newAt (by simp)).alloc _).alloc _ | exact (((hp.Blk.newAt (by simp)).alloc _).alloc _).alloc _ | exact ((((hp.Blk.newAt (by simp)).alloc _).alloc _).alloc _).alloc _ | exact (((((hp.Blk.newAt (by simp)).alloc _).alloc _).alloc _).alloc _).alloc _)
  have kwW33 : Below W31.heap.size W31 W33 := by rw [← hW33]; ((repeat' (first | with_reducible exact Below.refl _ _ | with_reducible apply Below.setCell | with_reducible apply below_drewN | with_reducible apply Below.drew | with_reducible apply Below.alloc | with_reducible refine Below.trans ?_ (Below.mono (by assumption) ?_))) <;> (first | (simp; done) | (simp; omega) | omega))
  rw [hW33]
  clear hW33
  replace i0 := i0.on kwW33
  replace i1 := i1.on kwW33
  replace B4 := B4.on kwW33
  replace B5 := B5.on kwW33
  replace B6 := B6.on kwW33
  replace B7 := B7.on kwW33
  replace B16 := B16.on kwW33
  replace F17 := F17.on kwW33
  replace B21 := B21.on kwW33
  replace F22 := F22.on kwW33
  replace f26 := f26.on kwW33
  replace B28 := B28.on kwW33
  replace f32 := f32.on kwW33
  replace hb := hb.trans (kwW33.mono hb.size)
  refine hK29.out _ _ ?_
  refine wp_seq_k fun K35 hK35 => ?_
  replace hK35 := Lib.hid hK35
  obtain ⟨t37, ht37, bt37⟩ := rel.name_list (l0.map (fa x2 x3)) 17592186043904 (by simp; omega)
  obtain ⟨t39, ht39, bt39⟩ := rel.name_list (t37.map (fa x4 x5)) 17592186043904 (by simp; omega)
  obtain ⟨t42, ht42, bt42⟩ := rel.name_list (l0.map (fgf x2 x3 x4 x5)) 17592186043904 (by simp; omega)
  have he44 : t39 = t42 := (by (simp only [← ht42.out, ← ht39.out, ← ht37.out]); simp only [List.map_map]; rfl)
  replace he44 := Lib.hid he44
  -- region 8 (low.go:144)
  apply rel.region (C := fun w' => Below W33.heap.size W33 w') (X := fun w w' => Below w.heap.size w w') (by kernel_rfl) (by kernel_rfl) (by kernel_rfl) ((Below.refl _ _).drew)
  ((apply rel.walk_val; (focus (intro wq hq hf; (obtain ⟨d0, d1⟩ := ((B28).below hq (B28).lt).cells2); go_wp2; refine ⟨hq, Below.refl _ _, ?_, rfl⟩; (show rel.slot _ _ = _; simp only [rel.slot_lit, List.getD_cons_succ, List.getD_cons_zero]; (first | done | exact rfl)))); (simp only [rel.put_lit, List.set_cons_succ, List.set_cons_zero])))
  (apply rel.walk_val; (focus (intro wq hq hf; (have d0 := (B16.on hq).cell 0; simp only [List.getElem?_cons_zero] at d0); go_wp2; refine ⟨hq, Below.refl _ _, ?_, rfl⟩; (show rel.slot _ _ = _; simp only [rel.slot_lit, List.getD_cons_succ, List.getD_cons_zero]; (first | done | exact rfl)))); (simp only [rel.put_lit, List.set_cons_succ, List.set_cons_zero]))
  (apply rel.walk_rel (fun u w' => lst.IsList w' w'.heap.size u (t37)) ⟨_, rfl⟩ (fun u w1 w2 h1 h2 => h2.on h1); (focus (intro wq hq hf; go_wp2_with (go_at_call 26; refine (lst.each_to ht37.out (f26.on hq) (F17.on hq) (fa_wf _ _) (by first | omega | simp)).mono ?_; rintro e w'' ⟨⟨u, rfl, hu⟩, hbb⟩); refine ⟨hq.trans (hbb.mono hq.size), hbb, ?_, rfl⟩; (show lst.IsList _ _ (rel.slot _ _) _; simp only [rel.slot_lit, List.getD_cons_succ, List.getD_cons_zero]; exact hu))); (intro u wu _ hu; obtain ⟨p36, rfl, -, -⟩ := hu; (simp only [rel.put_lit, List.set_cons_succ, List.set_cons_zero])))
  (apply rel.walk_val; (focus (intro wq hq hf; (have d0 := (B21.on hq).cell 0; simp only [List.getElem?_cons_zero] at d0); go_wp2; refine ⟨hq, Below.refl _ _, ?_, rfl⟩; (show rel.slot _ _ = _; simp only [rel.slot_lit, List.getD_cons_succ, List.getD_cons_zero]; (first | done | exact rfl)))); (simp only [rel.put_lit, List.set_cons_succ, List.set_cons_zero]))
  (apply rel.walk_rel (fun u w' => lst.IsList w' w'.heap.size u (t39)) ⟨_, rfl⟩ (fun u w1 w2 h1 h2 => h2.on h1); (focus (intro wq hq hf; go_wp2_with (go_at_call 26; refine (lst.each_to ht39.out (hf.get 0 rfl rfl) (F22.on hq) (fa_wf _ _) (by first | omega | simp)).mono ?_; rintro e w'' ⟨⟨u, rfl, hu⟩, hbb⟩); refine ⟨hq.trans (hbb.mono hq.size), hbb, ?_, rfl⟩; (show lst.IsList _ _ (rel.slot _ _) _; simp only [rel.slot_lit, List.getD_cons_succ, List.getD_cons_zero]; exact hu))); (intro u wu _ hu; obtain ⟨p38, rfl, -, -⟩ := hu; (simp only [rel.put_lit, List.set_cons_succ, List.set_cons_zero])))
  (apply rel.walk_rel (fun u w' => hp.IsInts w' w'.heap.size u (t39)) ⟨_, rfl⟩ (fun u w1 w2 h1 h2 => h2.on h1); (focus (intro wq hq hf; go_wp2_with (go_at_call 15; refine (lst.ints_any _ t39 _ (hf.get 0 rfl rfl) (by first | omega | simp)).mono ?_; rintro e w'' ⟨⟨u, rfl, hu⟩, hbb⟩); refine ⟨hq.trans (hbb.mono hq.size), hbb, ?_, rfl⟩; (show hp.IsInts _ _ (rel.slot _ _) _; simp only [rel.slot_lit, List.getD_cons_succ, List.getD_cons_zero]; exact hu))); (intro u wu _ hu; obtain ⟨av40, cv40, rfl, -⟩ := hu; (simp only [rel.put_lit, List.set_cons_succ, List.set_cons_zero])))
  ((apply rel.walk_val; (focus (intro wq hq hf; (obtain ⟨d0, d1⟩ := ((B28).below hq (B28).lt).cells2); go_wp2; refine ⟨hq, Below.refl _ _, ?_, rfl⟩; (show rel.slot _ _ = _; simp only [rel.slot_lit, List.getD_cons_succ, List.getD_cons_zero]; (first | done | exact rfl)))); (simp only [rel.put_lit, List.set_cons_succ, List.set_cons_zero])))
  (apply rel.walk_val; (focus (intro wq hq hf; go_wp2; refine ⟨hq, Below.refl _ _, ?_, rfl⟩; (show rel.slot _ _ = _; simp only [rel.slot_lit, List.getD_cons_succ, List.getD_cons_zero]; (first | done | exact rfl)))); (simp only [rel.put_lit, List.set_cons_succ, List.set_cons_zero]))
  (apply rel.walk_rel (fun u w' => lst.IsList w' w'.heap.size u (t42)) ⟨_, rfl⟩ (fun u w1 w2 h1 h2 => h2.on h1); (focus (intro wq hq hf; go_wp2_with (go_at_call 26; refine (lst.each_to ht42.out (f26.on hq) (fn_gf (B21.on hq) (B16.on hq) (F22.on hq) (F17.on hq)) (fun x => fa_wf _ _ _) (by first | omega | simp)).mono ?_; rintro e w'' ⟨⟨u, rfl, hu⟩, hbb⟩); refine ⟨hq.trans (hbb.mono hq.size), hbb, ?_, rfl⟩; (show lst.IsList _ _ (rel.slot _ _) _; simp only [rel.slot_lit, List.getD_cons_succ, List.getD_cons_zero]; exact hu))); (intro u wu _ hu; obtain ⟨p41, rfl, -, -⟩ := hu; (simp only [rel.put_lit, List.set_cons_succ, List.set_cons_zero])))
  (apply rel.walk_rel (fun u w' => hp.IsInts w' w'.heap.size u (t42)) ⟨_, rfl⟩ (fun u w1 w2 h1 h2 => h2.on h1); (focus (intro wq hq hf; go_wp2_with (go_at_call 15; refine (lst.ints_any _ t42 _ (hf.get 0 rfl rfl) (by first | omega | simp)).mono ?_; rintro e w'' ⟨⟨u, rfl, hu⟩, hbb⟩); refine ⟨hq.trans (hbb.mono hq.size), hbb, ?_, rfl⟩; (show hp.IsInts _ _ (rel.slot _ _) _; simp only [rel.slot_lit, List.getD_cons_succ, List.getD_cons_zero]; exact hu))); (intro u wu _ hu; obtain ⟨av43, cv43, rfl, -⟩ := hu; (simp only [rel.put_lit, List.set_cons_succ, List.set_cons_zero])))
  (apply rel.walk_val; (focus (intro wq hq hf; go_wp2_with (go_at_call 14; refine (same.ints_eq he44.out (hf.get 2 rfl rfl) (hf.get 0 rfl rfl)).mono ?_; rintro e w'' ⟨rfl, hbb⟩); refine ⟨hq.trans (hbb.mono hq.size), hbb, ?_, rfl⟩; (show rel.slot _ _ = _; simp only [rel.slot_lit, List.getD_cons_succ, List.getD_cons_zero]; (first | done | exact rfl)))); (simp only [rel.put_lit, List.set_cons_succ, List.set_cons_zero]))
  (apply rel.walk_val; (focus (intro wq hq hf; go_wp2; refine ⟨hq, Below.refl _ _, ?_, rfl⟩; (show rel.slot _ _ = _; simp only [rel.slot_lit, List.getD_cons_succ, List.getD_cons_zero]; (first | done | exact rfl)))); (simp only [rel.put_lit, List.set_cons_succ, List.set_cons_zero]))
  refine rel.walk_nil ?_
  intro W45 kwW45 hF
  clear hF
  replace i0 := i0.on kwW45
  replace i1 := i1.on kwW45
  replace B4 := B4.on kwW45
  replace B5 := B5.on kwW45
  replace B6 := B6.on kwW45
  replace B7 := B7.on kwW45
  replace B16 := B16.on kwW45
  replace F17 := F17.on kwW45
  replace B21 := B21.on kwW45
  replace F22 := F22.on kwW45
  replace f26 := f26.on kwW45
  replace B28 := B28.on kwW45
  replace f32 := f32.on kwW45
  replace B34 := B34.on kwW45
  replace hb := hb.trans (kwW45.mono hb.size)
  refine hK35.out _ _ ?_
  refine wp_seq_k fun K46 hK46 => ?_
  replace hK46 := Lib.hid hK46
  obtain ⟨t48, ht48, bt48⟩ := rel.name_list (l0 ++ l1) 35184372087808 (by simp; omega)
  obtain ⟨t50, ht50, bt50⟩ := rel.name_list (t48.map (fa x2 x3)) 35184372087808 (by simp; omega)
  obtain ⟨t53, ht53, bt53⟩ := rel.name_list (l0.map (fa x2 x3)) 17592186043904 (by simp; omega)
  obtain ⟨t55, ht55, bt55⟩ := rel.name_list (l1.map (fa x2 x3)) 17592186043904 (by simp; omega)
  obtain ⟨t57, ht57, bt57⟩ := rel.name_list (t53 ++ t55) 35184372087808 (by simp; omega)
  have he59 : t50 = t57 := (by (simp only [← ht57.out, ← ht55.out, ← ht53.out, ← ht50.out, ← ht48.out]) <;> simp)
  replace he59 := Lib.hid he59
  -- region 9 (low.go:145)
  apply rel.region (C := fun w' => Below W45.heap.size W45 w') (X := fun w w' => Below w.heap.size w w') (by kernel_rfl) (by kernel_rfl) (by kernel_rfl) ((Below.refl _ _).drew)
  ((apply rel.walk_val; (focus (intro wq hq hf; (obtain ⟨d0, d1⟩ := ((B28).below hq (B28).lt).cells2); go_wp2; refine ⟨hq, Below.refl _ _, ?_, rfl⟩; (show rel.slot _ _ = _; simp only [rel.slot_lit, List.getD_cons_succ, List.getD_cons_zero]; (first | done | exact rfl)))); (simp only [rel.put_lit, List.set_cons_succ, List.set_cons_zero])))
  ((apply rel.walk_val; (focus (intro wq hq hf; (obtain ⟨d0, d1⟩ := ((B34).below hq (B34).lt).cells2); go_wp2; refine ⟨hq, Below.refl _ _, ?_, rfl⟩; (show rel.slot _ _ = _; simp only [rel.slot_lit, List.getD_cons_succ, List.getD_cons_zero]; (first | done | exact rfl)))); (simp only [rel.put_lit, List.set_cons_succ, List.set_cons_zero])))
  (apply rel.walk_rel (fun u w' => lst.IsList w' w'.heap.size u (t48)) ⟨_, rfl⟩ (fun u w1 w2 h1 h2 => h2.on h1); (focus (intro wq hq hf; go_wp2_with (go_at_call 21; refine (lst.join_to ht48.out (f26.on hq) (f32.on hq) (by first | omega | simp) (by first | omega | simp)).mono ?_; rintro e w'' ⟨⟨u, rfl, hu⟩, hbb⟩); refine ⟨hq.trans (hbb.mono hq.size), hbb, ?_, rfl⟩; (show lst.IsList _ _ (rel.slot _ _) _; simp only [rel.slot_lit, List.getD_cons_succ, List.getD_cons_zero]; exact hu))); (intro u wu _ hu; obtain ⟨p47, rfl, -, -⟩ := hu; (simp only [rel.put_lit, List.set_cons_succ, List.set_cons_zero])))
  (apply rel.walk_val; (focus (intro wq hq hf; (have d0 := (B16.on hq).cell 0; simp only [List.getElem?_cons_zero] at d0); go_wp2; refine ⟨hq, Below.refl _ _, ?_, rfl⟩; (show rel.slot _ _ = _; simp only [rel.slot_lit, List.getD_cons_succ, List.getD_cons_zero]; (first | done | exact rfl)))); (simp only [rel.put_lit, List.set_cons_succ, List.set_cons_zero]))
  (apply rel.walk_rel (fun u w' => lst.IsList w' w'.heap.size u (t50)) ⟨_, rfl⟩ (fun u w1 w2 h1 h2 => h2.on h1); (focus (intro wq hq hf; go_wp2_with (go_at_call 26; refine (lst.each_to ht50.out (hf.get 0 rfl rfl) (F17.on hq) (fa_wf _ _) (by first | omega | simp)).mono ?_; rintro e w'' ⟨⟨u, rfl, hu⟩, hbb⟩); refine ⟨hq.trans (hbb.mono hq.size), hbb, ?_, rfl⟩; (show lst.IsList _ _ (rel.slot _ _) _; simp only [rel.slot_lit, List.getD_cons_succ, List.getD_cons_zero]; exact hu))); (intro u wu _ hu; obtain ⟨p49, rfl, -, -⟩ := hu; (simp only [rel.put_lit, List.set_cons_succ, List.set_cons_zero])))
  (apply rel.walk_rel (fun u w' => hp.IsInts w' w'.heap.size u (t50)) ⟨_, rfl⟩ (fun u w1 w2 h1 h2 => h2.on h1); (focus (intro wq hq hf; go_wp2_with (go_at_call 15; refine (lst.ints_any _ t50 _ (hf.get 0 rfl rfl) (by first | omega | simp)).mono ?_; rintro e w'' ⟨⟨u, rfl, hu⟩, hbb⟩); refine ⟨hq.trans (hbb.mono hq.size), hbb, ?_, rfl⟩; (show hp.IsInts _ _ (rel.slot _ _) _; simp only [rel.slot_lit, List.getD_cons_succ, List.getD_cons_zero]; exact hu))); (intro u wu _ hu; obtain ⟨av51, cv51, rfl, -⟩ := hu; (simp only [rel.put_lit, List.set_cons_succ, List.set_cons_zero])))
  ((apply rel.walk_val; (focus (intro wq hq hf; (obtain ⟨d0, d1⟩ := ((B28).below hq (B28).lt).cells2); go_wp2; refine ⟨hq, Below.refl _ _, ?_, rfl⟩; (show rel.slot _ _ = _; simp only [rel.slot_lit, List.getD_cons_succ, List.getD_cons_zero]; (first | done | exact rfl)))); (simp only [rel.put_lit, List.set_cons_succ, List.set_cons_zero])))
  (apply rel.walk_val; (focus (intro wq hq hf; (have d0 := (B16.on hq).cell 0; simp only [List.getElem?_cons_zero] at d0); go_wp2; refine ⟨hq, Below.refl _ _, ?_, rfl⟩; (show rel.slot _ _ = _; simp only [rel.slot_lit, List.getD_cons_succ, List.getD_cons_zero]; (first | done | exact rfl)))); (simp only [rel.put_lit, List.set_cons_succ, List.set_cons_zero]))
  (apply rel.walk_rel (fun u w' => lst.IsList w' w'.heap.size u (t53)) ⟨_, rfl⟩ (fun u w1 w2 h1 h2 => h2.on h1); (focus (intro wq hq hf; go_wp2_with (go_at_call 26; refine (lst.each_to ht53.out (f26.on hq) (F17.on hq) (fa_wf _ _) (by first | omega | simp)).mono ?_; rintro e w'' ⟨⟨u, rfl, hu⟩, hbb⟩); refine ⟨hq.trans (hbb.mono hq.size), hbb, ?_, rfl⟩; (show lst.IsList _ _ (rel.slot _ _) _; simp only [rel.slot_lit, List.getD_cons_succ, List.getD_cons_zero]; exact hu))); (intro u wu _ hu; obtain ⟨p52, rfl, -, -⟩ := hu; (simp only [rel.put_lit, List.set_cons_succ, List.set_cons_zero])))
  ((apply rel.walk_val; (focus (intro wq hq hf; (obtain ⟨d0, d1⟩ := ((B34).below hq (B34).lt).cells2); go_wp2; refine ⟨hq, Below.refl _ _, ?_, rfl⟩; (show rel.slot _ _ = _; simp only [rel.slot_lit, List.getD_cons_succ, List.getD_cons_zero]; (first | done | exact rfl)))); (simp only [rel.put_lit, List.set_cons_succ, List.set_cons_zero])))
  (apply rel.walk_val; (focus (intro wq hq hf; (have d0 := (B16.on hq).cell 0; simp only [List.getElem?_cons_zero] at d0); go_wp2; refine ⟨hq, Below.refl _ _, ?_, rfl⟩; (show rel.slot _ _ = _; simp only [rel.slot_lit, List.getD_cons_succ, List.getD_cons_zero]; (first | done | exact rfl)))); (simp only [rel.put_lit, List.set_cons_succ, List.set_cons_zero]))
  (apply rel.walk_rel (fun u w' => lst.IsList w' w'.heap.size u (t55)) ⟨_, rfl⟩ (fun u w1 w2 h1 h2 => h2.on h1); (focus (intro wq hq hf; go_wp2_with (go_at_call 26; refine (lst.each_to ht55.out (f32.on hq) (F17.on hq) (fa_wf _ _) (by first | omega | simp)).mono ?_; rintro e w'' ⟨⟨u, rfl, hu⟩, hbb⟩); refine ⟨hq.trans (hbb.mono hq.size), hbb, ?_, rfl⟩; (show lst.IsList _ _ (rel.slot _ _) _; simp only [rel.slot_lit, List.getD_cons_succ, List.getD_cons_zero]; exact hu))); (intro u wu _ hu; obtain ⟨p54, rfl, -, -⟩ := hu; (simp only [rel.put_lit, List.set_cons_succ, List.set_cons_zero])))
  (apply rel.walk_rel (fun u w' => lst.IsList w' w'.heap.size u (t57)) ⟨_, rfl⟩ (fun u w1 w2 h1 h2 => h2.on h1); (focus (intro wq hq hf; go_wp2_with (go_at_call 21; refine (lst.join_to ht57.out (hf.get 1 rfl rfl) (hf.get 0 rfl rfl) (by first | omega | simp) (by first | omega | simp)).mono ?_; rintro e w'' ⟨⟨u, rfl, hu⟩, hbb⟩); refine ⟨hq.trans (hbb.mono hq.size), hbb, ?_, rfl⟩; (show lst.IsList _ _ (rel.slot _ _) _; simp only [rel.slot_lit, List.getD_cons_succ, List.getD_cons_zero]; exact hu))); (intro u wu _ hu; obtain ⟨p56, rfl, -, -⟩ := hu; (simp only [rel.put_lit, List.set_cons_succ, List.set_cons_zero])))
  (apply rel.walk_rel (fun u w' => hp.IsInts w' w'.heap.size u (t57)) ⟨_, rfl⟩ (fun u w1 w2 h1 h2 => h2.on h1); (focus (intro wq hq hf; go_wp2_with (go_at_call 15; refine (lst.ints_any _ t57 _ (hf.get 0 rfl rfl) (by first | omega | simp)).mono ?_; rintro e w'' ⟨⟨u, rfl, hu⟩, hbb⟩); refine ⟨hq.trans (hbb.mono hq.size), hbb, ?_, rfl⟩; (show hp.IsInts _ _ (rel.slot _ _) _; simp only [rel.slot_lit, List.getD_cons_succ, List.getD_cons_zero]; exact hu))); (intro u wu _ hu; obtain ⟨av58, cv58, rfl, -⟩ := hu; (simp only [rel.put_lit, List.set_cons_succ, List.set_cons_zero])))
  (apply rel.walk_val; (focus (intro wq hq hf; go_wp2_with (go_at_call 14; refine (same.ints_eq he59.out (hf.get 4 rfl rfl) (hf.get 0 rfl rfl)).mono ?_; rintro e w'' ⟨rfl, hbb⟩); refine ⟨hq.trans (hbb.mono hq.size), hbb, ?_, rfl⟩; (show rel.slot _ _ = _; simp only [rel.slot_lit, List.getD_cons_succ, List.getD_cons_zero]; (first | done | exact rfl)))); (simp only [rel.put_lit, List.set_cons_succ, List.set_cons_zero]))
  (apply rel.walk_val; (focus (intro wq hq hf; go_wp2; refine ⟨hq, Below.refl _ _, ?_, rfl⟩; (show rel.slot _ _ = _; simp only [rel.slot_lit, List.getD_cons_succ, List.getD_cons_zero]; (first | done | exact rfl)))); (simp only [rel.put_lit, List.set_cons_succ, List.set_cons_zero]))
  refine rel.walk_nil ?_
  intro W60 kwW60 hF
  clear hF
  replace i0 := i0.on kwW60
  replace i1 := i1.on kwW60
  replace B4 := B4.on kwW60
  replace B5 := B5.on kwW60
  replace B6 := B6.on kwW60
  replace B7 := B7.on kwW60
  replace B16 := B16.on kwW60
  replace F17 := F17.on kwW60
  replace B21 := B21.on kwW60
  replace F22 := F22.on kwW60
  replace f26 := f26.on kwW60
  replace B28 := B28.on kwW60
  replace f32 := f32.on kwW60
  replace B34 := B34.on kwW60
  replace hb := hb.trans (kwW60.mono hb.size)
  refine hK46.out _ _ ?_
  refine wp_seq_k fun K61 hK61 => ?_
  replace hK61 := Lib.hid hK61
  -- region 10 (low.go:146)
  apply rel.seq (C := fun w' => Below W60.heap.size W60 w') (X := fun w w' => Below w.heap.size w w') (by kernel_rfl) (by kernel_rfl) (Below.refl _ _)
  (apply rel.walk_val; (focus (intro wq hq hf; go_wp2; refine ⟨hq, Below.refl _ _, ?_, rfl⟩; (show rel.slot _ _ = _; simp only [rel.slot_lit, List.getD_cons_succ, List.getD_cons_zero]; (first | done | exact rfl)))); (simp only [rel.put_lit, List.set_cons_succ, List.set_cons_zero]))
  refine rel.walk_nil ?_
  intro W62 kwW62 hF
  clear hF
  replace i0 := i0.on kwW62
  replace i1 := i1.on kwW62
  replace B4 := B4.on kwW62
  replace B5 := B5.on kwW62
  replace B6 := B6.on kwW62
  replace B7 := B7.on kwW62
  replace B16 := B16.on kwW62
  replace F17 := F17.on kwW62
  replace B21 := B21.on kwW62
  replace F22 := F22.on kwW62
  replace f26 := f26.on kwW62
  replace B28 := B28.on kwW62
  replace f32 := f32.on kwW62
  replace B34 := B34.on kwW62
  replace hb := hb.trans (kwW62.mono hb.size)
  refine hK61.out _ _ ?_
  refine wp_seq_k fun K63 hK63 => ?_
  replace hK63 := Lib.hid hK63
  refine wp_seq_k fun K64 hK64 => ?_
  replace hK64 := Lib.hid hK64
  -- region 11 (low.go:147)
  apply rel.seq (C := fun w' => Below W62.heap.size W62 w') (X := fun w w' => Below w.heap.size w w') (by kernel_rfl) (by kernel_rfl) (Below.refl _ _)
  (apply rel.walk_val; (focus (intro wq hq hf; go_wp2; refine ⟨hq, Below.refl _ _, ?_, rfl⟩; (show rel.slot _ _ = _; simp only [rel.slot_lit, List.getD_cons_succ, List.getD_cons_zero]; (first | done | exact rfl)))); (simp only [rel.put_lit, List.set_cons_succ, List.set_cons_zero]))
  refine rel.walk_nil ?_
  intro W65 kwW65 hF
  clear hF
  replace i0 := i0.on kwW65
  replace i1 := i1.on kwW65
  replace B4 := B4.on kwW65
  replace B5 := B5.on kwW65
  replace B6 := B6.on kwW65
  replace B7 := B7.on kwW65
  replace B16 := B16.on kwW65
  replace F17 := F17.on kwW65
  replace B21 := B21.on kwW65
  replace F22 := F22.on kwW65
  replace f26 := f26.on kwW65
  replace B28 := B28.on kwW65
  replace f32 := f32.on kwW65
  replace B34 := B34.on kwW65
  replace hb := hb.trans (kwW65.mono hb.size)
  refine hK64.out _ _ ?_
  have hz0 : W65.ownsRow W65.heap.size 3 1 (.slice none 0 0) 0 (([] : List Int).map (Value.int .i64)) := World.ownsRow_nil _ _ _ _
  go_wp2_with fail
  go_loopw [20, 21] (fun u i wr => ∃ k : Nat, i = .int .i64 k ∧ k ≤ l0.length ∧ Below W65.heap.size W65 wr ∧ wr.ownsRow W65.heap.size 3 1 u k (((l0.take k).map (fa x2 x3)).map (Value.int .i64))) (fun _ i _ => l0.length - (intOf i).toNat)
  case atStart => exact ⟨0, rfl, by omega, Below.refl _ _, hz0⟩
  case round =>
    obtain ⟨k, rfl, hk, hbr, hrow⟩ := hrel
    by_cases hlt : k < l0.length
    · obtain ⟨aa, cc, hee, _, _, _, hcc⟩ := i0
      obtain ⟨b0, o0, he0, hb0, hd0⟩ := hcc (by omega)
      have hx : wr.cell? ⟨b0, o0 + k, none⟩ = some (.int .i64 (l0.getD k 0)) := (hbr.cell (p := ⟨b0, o0 + k, none⟩) hb0).trans (hd0 k hlt)
      have hs0 := Lib.hid (same.take_snoc l0 k hlt)
      obtain ⟨rfl, -, rfl⟩ : a0 = aa ∧ l0.length = l0.length ∧ c0 = cc := by simpa using hee
      subst he0
      have hbl : b0 < wr.heap.size := by have := hbr.size; omega
      clear hcc hd0 hee
      obtain ⟨x, hx0⟩ : ∃ x, x = l0.getD k 0 := ⟨_, rfl⟩
      rw [← hx0] at hx hs0
      clear hx0
      obtain ⟨j0, hi, hz1, hz2, hz3⟩ := info_parts same.infoInt
      have hsz := hbr.size
      have hA := B4.on hbr
      have hB := B5.on hbr
      go_wp2_with fail
      apply rel.region_tail (C := fun w' => Below wr.heap.size wr w') (X := fun w w' => Below w.heap.size w w') 10 (by kernel_rfl) (by kernel_rfl) (by kernel_rfl) (by kernel_rfl) ((Below.refl _ _).drew)
      (apply rel.walk_val; (focus (intro wq hq hf; go_wp2; refine ⟨hq, Below.refl _ _, ?_, rfl⟩; (show rel.slot _ _ = _; simp only [rel.slot_lit, List.getD_cons_succ, List.getD_cons_zero]; (first | done | exact rfl)))); (simp only [rel.put_lit, List.set_cons_succ, List.set_cons_zero]))
      (apply rel.walk_val; (focus (intro wq hq hf; (have d0 := (hA.on hq).cell 0; simp only [List.getElem?_cons_zero] at d0); go_wp2; refine ⟨hq, Below.refl _ _, ?_, rfl⟩; (show rel.slot _ _ = _; simp only [rel.slot_lit, List.getD_cons_succ, List.getD_cons_zero]; (first | done | exact rfl)))); (simp only [rel.put_lit, List.set_cons_succ, List.set_cons_zero]))
      (apply rel.walk_val; (focus (intro wq hq hf; go_wp2; refine ⟨hq, Below.refl _ _, ?_, rfl⟩; (show rel.slot _ _ = _; simp only [rel.slot_lit, List.getD_cons_succ, List.getD_cons_zero]; (first | done | exact rfl)))); (simp only [rel.put_lit, List.set_cons_succ, List.set_cons_zero]))
      (apply rel.walk_val; (focus (intro wq hq hf; go_wp2; refine ⟨hq, Below.refl _ _, ?_, rfl⟩; (show rel.slot _ _ = _; simp only [rel.slot_lit, List.getD_cons_succ, List.getD_cons_zero]; (first | done | exact rfl)))); (simp only [rel.put_lit, List.set_cons_succ, List.set_cons_zero]))
      (apply rel.walk_val; (focus (intro wq hq hf; go_wp2; refine ⟨hq, Below.refl _ _, ?_, rfl⟩; (show rel.slot _ _ = _; simp only [rel.slot_lit, List.getD_cons_succ, List.getD_cons_zero]; (first | done | exact rfl)))); (simp only [rel.put_lit, List.set_cons_succ, List.set_cons_zero]))
      (apply rel.walk_val; (focus (intro wq hq hf; (have d0 := (hq.cell (p := ⟨b0, o0 + k, none⟩) hbl).trans hx); go_wp2; refine ⟨hq, Below.refl _ _, ?_, rfl⟩; (show rel.slot _ _ = _; simp only [rel.slot_lit, List.getD_cons_succ, List.getD_cons_zero]; (first | done | exact rfl)))); (simp only [rel.put_lit, List.set_cons_succ, List.set_cons_zero]))
      (apply rel.walk_val; (focus (intro wq hq hf; go_wp2; refine ⟨hq, Below.refl _ _, ?_, rfl⟩; (show rel.slot _ _ = _; simp only [rel.slot_lit, List.getD_cons_succ, List.getD_cons_zero]; (first | done | exact rfl)))); (simp only [rel.put_lit, List.set_cons_succ, List.set_cons_zero]))
      (apply rel.walk_val; (focus (intro wq hq hf; (have d0 := (hB.on hq).cell 0; simp only [List.getElem?_cons_zero] at d0); go_wp2; refine ⟨hq, Below.refl _ _, ?_, rfl⟩; (show rel.slot _ _ = _; simp only [rel.slot_lit, List.getD_cons_succ, List.getD_cons_zero]; (first | done | exact rfl)))); (simp only [rel.put_lit, List.set_cons_succ, List.set_cons_zero]))
      (apply rel.walk_val; (focus (intro wq hq hf; go_wp2; refine ⟨hq, Below.refl _ _, ?_, rfl⟩; (show rel.slot _ _ = _; simp only [rel.slot_lit, List.getD_cons_succ, List.getD_cons_zero]; (first | done | exact rfl)))); (simp only [rel.put_lit, List.set_cons_succ, List.set_cons_zero]))
      (apply rel.walk_rel (fun u w' => ∃ g, u = .slice (some ⟨g, 0, none⟩) 1 1 ∧ hp.Blk w' g 3 [.int .i64 (wrap64 (wrap64 (x2 * x) + x3))]) ⟨_, rfl⟩ (fun u w1 w2 h1 h2 => by obtain ⟨g, he, hk⟩ := h2; exact ⟨g, he, hk.on h1⟩); (focus (intro wq hq hf; go_wp2; refine ⟨hq.alloc hq.size _, (Below.refl _ _).alloc (Nat.le_refl _) _, ?_, rfl⟩; (show ∃ g, rel.slot _ _ = _ ∧ _; simp only [rel.slot_lit, List.getD_cons_succ, List.getD_cons_zero]; exact ⟨_, rfl, hp.Blk.new _ _ _⟩))); (intro u wu _ hu; obtain ⟨gu, rfl, -⟩ := hu; (simp only [rel.put_lit, List.set_cons_succ, List.set_cons_zero])))
      refine rel.walk_nil ?_
      intro w9 K9 hF9
      obtain ⟨g, hge, hgk⟩ : ∃ g, Value.slice (some ⟨gu, 0, none⟩) 1 1 = Value.slice (some ⟨g, 0, none⟩) 1 1 ∧ hp.Blk w9 g 3 [.int .i64 (wrap64 (wrap64 (x2 * x) + x3))] := hF9 _ (List.mem_cons_self ..)
      obtain rfl : gu = g := by simpa using hge
      clear hF9 hge
      have hrow9 := hp.row_on hrow K9
      have hs9 := K9.size
      simp only [List.drop_succ_cons, List.drop_zero]
      go_wp2_with (at_builtin; refine wpList_append_own _ rfl _ _ 22 rfl W65.heap.size 3 j0 (.int .i64 0) 1 8 Try.underlying22 hi hz1 hz2 hz3 rfl (by decide) _ _ _ rfl hrow9 ⟨gu, 0, none⟩ 1 1 [.int .i64 (wrap64 (wrap64 (x2 * x) + x3))] rfl rfl (lst.blk_cells hgk) (by simp [Value.oneCell']) (by unfold maxLen; omega) (by omega) (by omega) ?_; intro v' w2 hown' hgrow _)
      go_roundw
      case rel =>
        refine ⟨k + 1, by go_num, by omega, ?_, by rw [hs0.out]; simpa [fa] using hown'⟩
        exact (hbr.trans (K9.mono hsz)).grown hgrow (by omega) (fun k hk => (hrow9.lt k hk).1)
      case measure => simp [intOf]; omega
    · obtain rfl : k = l0.length := by omega
      rw [List.take_length] at hrow
      clear hlt
      go_wp2_with fail
      obtain ⟨t66, ht66, bt66⟩ := rel.name_list (l0.map (fa x2 x3)) 17592186043904 (by simp; omega)
      have hI : hp.IsInts wr wr.heap.size u20 t66 := hp.IsInts.of_owns (n := l0.length) (by rw [← ht66.out]; exact hrow) (by rw [← ht66.out]; simp) (by rw [← ht66.out]; intro y hy; obtain ⟨z, _, rfl⟩ := List.mem_map.1 hy; exact fa_wf _ _ _)
      obtain ⟨au, cu, heu, hru⟩ := hI
      have hI : hp.IsInts wr wr.heap.size (.slice au t66.length cu) t66 := ⟨au, cu, rfl, hru⟩
      subst heu
      clear hru hrow
      replace i0 := i0.on hbr
      replace i1 := i1.on hbr
      replace B4 := B4.on hbr
      replace B5 := B5.on hbr
      replace B6 := B6.on hbr
      replace B7 := B7.on hbr
      replace B16 := B16.on hbr
      replace F17 := F17.on hbr
      replace B21 := B21.on hbr
      replace F22 := F22.on hbr
      replace f26 := f26.on hbr
      replace B28 := B28.on hbr
      replace f32 := f32.on hbr
      replace B34 := B34.on hbr
      replace hb := hb.trans (hbr.mono hb.size)
      refine hK63.out _ _ ?_
      refine wp_seq_k fun K67 hK67 => ?_
      replace hK67 := Lib.hid hK67
      obtain ⟨t69, ht69, bt69⟩ := rel.name_list (l0.map (fa x2 x3)) 17592186043904 (by simp; omega)
      have he71 : t69 = t66 := (by (simp only [← ht69.out, ← ht66.out]) <;> simp)
      replace he71 := Lib.hid he71
      -- region 15 (low.go:150)
      apply rel.seq (C := fun w' => Below wr.heap.size wr w') (X := fun w w' => Below w.heap.size w w') (by kernel_rfl) (by kernel_rfl) (Below.refl _ _)
      ((apply rel.walk_val; (focus (intro wq hq hf; (obtain ⟨d0, d1⟩ := ((B28).below hq (B28).lt).cells2); go_wp2; refine ⟨hq, Below.refl _ _, ?_, rfl⟩; (show rel.slot _ _ = _; simp only [rel.slot_lit, List.getD_cons_succ, List.getD_cons_zero]; (first | done | exact rfl)))); (simp only [rel.put_lit, List.set_cons_succ, List.set_cons_zero])))
      (apply rel.walk_val; (focus (intro wq hq hf; (have d0 := (B16.on hq).cell 0; simp only [List.getElem?_cons_zero] at d0); go_wp2; refine ⟨hq, Below.refl _ _, ?_, rfl⟩; (show rel.slot _ _ = _; simp only [rel.slot_lit, List.getD_cons_succ, List.getD_cons_zero]; (first | done | exact rfl)))); (simp only [rel.put_lit, List.set_cons_succ, List.set_cons_zero]))
      (apply rel.walk_rel (fun u w' => lst.IsList w' w'.heap.size u (t69)) ⟨_, rfl⟩ (fun u w1 w2 h1 h2 => h2.on h1); (focus (intro wq hq hf; go_wp2_with (go_at_call 26; refine (lst.each_to ht69.out (f26.on hq) (F17.on hq) (fa_wf _ _) (by first | omega | simp)).mono ?_; rintro e w'' ⟨⟨u, rfl, hu⟩, hbb⟩); refine ⟨hq.trans (hbb.mono hq.size), hbb, ?_, rfl⟩; (show lst.IsList _ _ (rel.slot _ _) _; simp only [rel.slot_lit, List.getD_cons_succ, List.getD_cons_zero]; exact hu))); (intro u wu _ hu; obtain ⟨p68, rfl, -, -⟩ := hu; (simp only [rel.put_lit, List.set_cons_succ, List.set_cons_zero])))
      (apply rel.walk_rel (fun u w' => hp.IsInts w' w'.heap.size u (t69)) ⟨_, rfl⟩ (fun u w1 w2 h1 h2 => h2.on h1); (focus (intro wq hq hf; go_wp2_with (go_at_call 15; refine (lst.ints_any _ t69 _ (hf.get 0 rfl rfl) (by first | omega | simp)).mono ?_; rintro e w'' ⟨⟨u, rfl, hu⟩, hbb⟩); refine ⟨hq.trans (hbb.mono hq.size), hbb, ?_, rfl⟩; (show hp.IsInts _ _ (rel.slot _ _) _; simp only [rel.slot_lit, List.getD_cons_succ, List.getD_cons_zero]; exact hu))); (intro u wu _ hu; obtain ⟨av70, cv70, rfl, -⟩ := hu; (simp only [rel.put_lit, List.set_cons_succ, List.set_cons_zero])))
      (apply rel.walk_val; (focus (intro wq hq hf; go_wp2; refine ⟨hq, Below.refl _ _, ?_, rfl⟩; (show rel.slot _ _ = _; simp only [rel.slot_lit, List.getD_cons_succ, List.getD_cons_zero]; (first | done | exact rfl)))); (simp only [rel.put_lit, List.set_cons_succ, List.set_cons_zero]))
      (apply rel.walk_val; (focus (intro wq hq hf; go_wp2_with (go_at_call 14; refine (same.ints_eq he71.out (hf.get 0 rfl rfl) (hI.on hq)).mono ?_; rintro e w'' ⟨rfl, hbb⟩); refine ⟨hq.trans (hbb.mono hq.size), hbb, ?_, rfl⟩; (show rel.slot _ _ = _; simp only [rel.slot_lit, List.getD_cons_succ, List.getD_cons_zero]; (first | done | exact rfl)))); (simp only [rel.put_lit, List.set_cons_succ, List.set_cons_zero]))
      (apply rel.walk_val; (focus (intro wq hq hf; go_wp2; refine ⟨hq, Below.refl _ _, ?_, rfl⟩; (show rel.slot _ _ = _; simp only [rel.slot_lit, List.getD_cons_succ, List.getD_cons_zero]; (first | done | exact rfl)))); (simp only [rel.put_lit, List.set_cons_succ, List.set_cons_zero]))
      refine rel.walk_nil ?_
      intro W72 kwW72 hF
      clear hF
      replace i0 := i0.on kwW72
      replace i1 := i1.on kwW72
      replace B4 := B4.on kwW72
      replace B5 := B5.on kwW72
      replace B6 := B6.on kwW72
      replace B7 := B7.on kwW72
      replace B16 := B16.on kwW72
      replace F17 := F17.on kwW72
      replace B21 := B21.on kwW72
      replace F22 := F22.on kwW72
      replace f26 := f26.on kwW72
      replace B28 := B28.on kwW72
      replace f32 := f32.on kwW72
      replace B34 := B34.on kwW72
      replace hI := hI.on kwW72
      replace hb := hb.trans (kwW72.mono hb.size)
      refine hK67.out _ _ ?_
      refine wp_seq_k fun K73 hK73 => ?_
      replace hK73 := Lib.hid hK73
      -- region 16 (low.go:151)
      apply rel.seq (C := fun w' => Below W72.heap.size W72 w') (X := fun w w' => Below w.heap.size w w') (by kernel_rfl) (by kernel_rfl) (Below.refl _ _)
      (apply rel.walk_val; (focus (intro wq hq hf; go_wp2; refine ⟨hq, Below.refl _ _, ?_, rfl⟩; (show rel.slot _ _ = _; simp only [rel.slot_lit, List.getD_cons_succ, List.getD_cons_zero]; (first | done | exact rfl)))); (simp only [rel.put_lit, List.set_cons_succ, List.set_cons_zero]))
      (apply rel.walk_val; (focus (intro wq hq hf; go_wp2; refine ⟨hq, Below.refl _ _, ?_, rfl⟩; (show rel.slot _ _ = _; simp only [rel.slot_lit, List.getD_cons_succ, List.getD_cons_zero]; (first | done | exact rfl)))); (simp only [rel.put_lit, List.set_cons_succ, List.set_cons_zero]))
      (apply rel.walk_val; (focus (intro wq hq hf; go_wp2; refine ⟨hq, Below.refl _ _, ?_, rfl⟩; (show rel.slot _ _ = _; simp only [rel.slot_lit, List.getD_cons_succ, List.getD_cons_zero]; (first | done | exact rfl)))); (simp only [rel.put_lit, List.set_cons_succ, List.set_cons_zero]))
      (apply rel.walk_val; (focus (intro wq hq hf; go_wp2; refine ⟨hq, Below.refl _ _, ?_, rfl⟩; (show rel.slot _ _ = _; simp only [rel.slot_lit, List.getD_cons_succ, List.getD_cons_zero]; (first | done | exact rfl)))); (simp only [rel.put_lit, List.set_cons_succ, List.set_cons_zero]))
      (apply rel.walk_val; (focus (intro wq hq hf; go_wp2; refine ⟨hq, Below.refl _ _, ?_, rfl⟩; (show rel.slot _ _ = _; simp only [rel.slot_lit, List.getD_cons_succ, List.getD_cons_zero]; (first | done | exact rfl)))); (simp only [rel.put_lit, List.set_cons_succ, List.set_cons_zero]))
      (apply rel.walk_val; (focus (intro wq hq hf; go_wp2; refine ⟨hq, Below.refl _ _, ?_, rfl⟩; (show rel.slot _ _ = _; simp only [rel.slot_lit, List.getD_cons_succ, List.getD_cons_zero]; (first | done | exact rfl)))); (simp only [rel.put_lit, List.set_cons_succ, List.set_cons_zero]))
      (apply rel.walk_val; (focus (intro wq hq hf; go_wp2; refine ⟨hq, Below.refl _ _, ?_, rfl⟩; (show rel.slot _ _ = _; simp only [rel.slot_lit, List.getD_cons_succ, List.getD_cons_zero]; (first | done | exact rfl)))); (simp only [rel.put_lit, List.set_cons_succ, List.set_cons_zero]))
      (apply rel.walk_val; (focus (intro wq hq hf; go_wp2; refine ⟨hq, Below.refl _ _, ?_, rfl⟩; (show rel.slot _ _ = _; simp only [rel.slot_lit, List.getD_cons_succ, List.getD_cons_zero]; (first | done | exact rfl)))); (simp only [rel.put_lit, List.set_cons_succ, List.set_cons_zero]))
      refine rel.walk_nil ?_
      intro W74 kwW74 hF
      clear hF
      replace i0 := i0.on kwW74
      replace i1 := i1.on kwW74
      replace B4 := B4.on kwW74
      replace B5 := B5.on kwW74
      replace B6 := B6.on kwW74
      replace B7 := B7.on kwW74
      replace B16 := B16.on kwW74
      replace F17 := F17.on kwW74
      replace B21 := B21.on kwW74
      replace F22 := F22.on kwW74
      replace f26 := f26.on kwW74
      replace B28 := B28.on kwW74
      replace f32 := f32.on kwW74
      replace B34 := B34.on kwW74
      replace hI := hI.on kwW74
      replace hb := hb.trans (kwW74.mono hb.size)
      refine hK73.out _ _ ?_
      refine wp_ret ?_
      go_ret
      exact ⟨rfl, hb⟩

end Go.Proofs.Ytkhnfkejmhhcjaa.listEach
