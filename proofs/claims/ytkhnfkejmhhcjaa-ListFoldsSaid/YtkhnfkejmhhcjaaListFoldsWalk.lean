/- The walk of ListFolds. -/
import Derived.Test.YtkhnfkejmhhcjaaLstWalks
namespace Go.Proofs.Ytkhnfkejmhhcjaa.listFolds
open Go Go.RowKit
set_option linter.unusedVariables false

/-- a*x + y -/
def ff (a x y : Int) : Int := wrap64 (wrap64 (a * x) + y)
theorem fn_f (a : Int) (g : Nat) (w : World) (h : hp.Blk w g 3 [.int .i64 a]) : lst.Fn2 w (.func (.func 34) #[] #[.pointer (some ⟨g, 0, none⟩)]) (ff a) := by
  refine ⟨_, _, rfl, enters_of Try.func34 (by kernel_rfl) rfl, fun z x w' hb => ?_⟩
  have h' := h.on hb
  have c0 := h'.cell 0
  simp only [List.getElem?_cons_zero] at c0
  show Calls _ _ #[.int .i64 z, .int .i64 x, .pointer (some ⟨g, 0, none⟩)] _ _
  go_enter Try.func34, Try.ntmps34
  go_wp2
  go_ret
  exact ⟨rfl, Below.refl _ _⟩

set_option maxHeartbeats 8000000 in
theorem walk (v0 : Value) (l0 : List Int) (v1 : Value) (l1 : List Int) (x2 : Int) (x3 : Int) (w : World) (i0 : hp.IsInts w w.heap.size v0 l0) (i1 : hp.IsInts w w.heap.size v1 l1) (w2 : (Lit.int .i64 x2).wf = true) (w3 : (Lit.int .i64 x3).wf = true) (bd0 : l0.length ≤ 17592186043904) (bd1 : l1.length ≤ 17592186043904)  :
    Calls Try.prog 8 #[v0, v1, .int .i64 x2, .int .i64 x3] w fun e w' => e = .returned (.bool true) ∧ Below w.heap.size w w' := by
  have hb : Below w.heap.size w w := Below.refl _ _
  have hsf := lst.store_func
  obtain ⟨a0, c0, he0, hr0⟩ := i0
  have i0 : hp.IsInts w w.heap.size (.slice a0 l0.length c0) l0 := ⟨a0, c0, rfl, hr0⟩
  subst he0
  clear hr0
  obtain ⟨a1, c1, he1, hr1⟩ := i1
  have i1 : hp.IsInts w w.heap.size (.slice a1 l1.length c1) l1 := ⟨a1, c1, rfl, hr1⟩
  subst he1
  clear hr1
  go_enter Try.func8, Try.ntmps8
  refine wp_seq_k fun K1 hK1 => ?_
  replace hK1 := Lib.hid hK1
  -- region 0 (low.go:171)
  apply rel.seq_tail (hn := by decide) (C := fun w' => Below w.heap.size w w') (X := fun w w' => Below w.heap.size w w') 0 (by kernel_rfl) (by kernel_rfl) (Below.refl _ _)
  refine rel.walk_nil ?_
  intro W2 kwW2 hF
  clear hF
  replace i0 := i0.on kwW2
  replace i1 := i1.on kwW2
  replace hb := hb.trans (kwW2.mono hb.size)
  simp only [List.drop_zero]
  go_wp2
  obtain ⟨W3, hW3⟩ : ∃ x, (W2.alloc (.cells #[.int .i64 x3] 3)) = x := ⟨_, rfl⟩
  have B4 : hp.Blk W3 (W2.heap.size) 3 [.int .i64 x3] := by rw [← hW3]; (first | exact hp.Blk.newAt (by simp) | exact (hp.Blk.newAt (by simp)).alloc _ | exact ((hp.Blk.newAt (by simp)).alloc _).alloc _ | exact (((hp.Blk.newAt (by simp)).alloc _).alloc _).alloc _ | exact ((((hp.Blk.newAt (by simp)).alloc _).alloc _).alloc _).alloc _ | exact (((((hp.Blk.newAt (by simp)).alloc _).alloc _).alloc _).alloc _).alloc _)
  have kwW3 : Below W2.heap.size W2 W3 := by rw [← hW3]; ((repeat' (first | with_reducible exact Below.refl _ _ | with_reducible apply Below.setCell | with_reducible apply below_drewN | with_reducible apply Below.drew | with_reducible apply Below.alloc | with_reducible refine Below.trans ?_ (Below.mono (by assumption) ?_))) <;> (first | (simp; done) | (simp; omega) | omega))
  rw [hW3]
  clear hW3
  replace i0 := i0.on kwW3
  replace i1 := i1.on kwW3
  replace hb := hb.trans (kwW3.mono hb.size)
  refine hK1.out _ _ ?_
  refine wp_seq_k fun K5 hK5 => ?_
  replace hK5 := Lib.hid hK5
  -- region 1 (low.go:172)
  apply rel.seq (C := fun w' => Below W3.heap.size W3 w') (X := fun w w' => Below w.heap.size w w') (by kernel_rfl) (by kernel_rfl) (Below.refl _ _)
  (apply rel.walk_val; (focus (intro wq hq hf; go_wp2_with (go_at_call 12; refine (lst.listed_any _).mono ?_; rintro e w'' ⟨rfl, hbb⟩); refine ⟨hq.trans (hbb.mono hq.size), hbb, ?_, rfl⟩; (show rel.slot _ _ = _; simp only [rel.slot_lit, List.getD_cons_succ, List.getD_cons_zero]; (first | done | exact rfl)))); (simp only [rel.put_lit, List.set_cons_succ, List.set_cons_zero]))
  (apply rel.walk_val; (focus (intro wq hq hf; go_wp2; refine ⟨hq, Below.refl _ _, ?_, rfl⟩; (show rel.slot _ _ = _; simp only [rel.slot_lit, List.getD_cons_succ, List.getD_cons_zero]; (first | done | exact rfl)))); (simp only [rel.put_lit, List.set_cons_succ, List.set_cons_zero]))
  refine rel.walk_nil ?_
  intro W6 kwW6 hF
  clear hF
  replace i0 := i0.on kwW6
  replace i1 := i1.on kwW6
  replace B4 := B4.on kwW6
  replace hb := hb.trans (kwW6.mono hb.size)
  refine hK5.out _ _ ?_
  refine wp_seq_k fun K7 hK7 => ?_
  replace hK7 := Lib.hid hK7
  refine wp_seq_k fun K8 hK8 => ?_
  replace hK8 := Lib.hid hK8
  -- region 2 (low.go:173)
  apply rel.seq (C := fun w' => Below W6.heap.size W6 w') (X := fun w w' => Below w.heap.size w w') (by kernel_rfl) (by kernel_rfl) (Below.refl _ _)
  (apply rel.walk_val; (focus (intro wq hq hf; go_wp2; refine ⟨hq, Below.refl _ _, ?_, rfl⟩; (show rel.slot _ _ = _; simp only [rel.slot_lit, List.getD_cons_succ, List.getD_cons_zero]; (first | done | exact rfl)))); (simp only [rel.put_lit, List.set_cons_succ, List.set_cons_zero]))
  (apply rel.walk_val; (focus (intro wq hq hf; go_wp2; refine ⟨hq, Below.refl _ _, ?_, rfl⟩; (show rel.slot _ _ = _; simp only [rel.slot_lit, List.getD_cons_succ, List.getD_cons_zero]; (first | done | exact rfl)))); (simp only [rel.put_lit, List.set_cons_succ, List.set_cons_zero]))
  refine rel.walk_nil ?_
  intro W9 kwW9 hF
  clear hF
  replace i0 := i0.on kwW9
  replace i1 := i1.on kwW9
  replace B4 := B4.on kwW9
  replace hb := hb.trans (kwW9.mono hb.size)
  refine hK8.out _ _ ?_
  refine wp_cond_false rfl ?_
  refine wp_skip ?_
  refine hK7.out _ _ ?_
  refine wp_seq_k fun K10 hK10 => ?_
  replace hK10 := Lib.hid hK10
  -- region 4 (low.go:176)
  apply rel.seq (C := fun w' => Below W9.heap.size W9 w') (X := fun w w' => Below w.heap.size w w') (by kernel_rfl) (by kernel_rfl) (Below.refl _ _)
  (apply rel.walk_val; (focus (intro wq hq hf; go_wp2; refine ⟨hq, Below.refl _ _, ?_, rfl⟩; (show rel.slot _ _ = _; simp only [rel.slot_lit, List.getD_cons_succ, List.getD_cons_zero]; (first | done | exact rfl)))); (simp only [rel.put_lit, List.set_cons_succ, List.set_cons_zero]))
  (apply rel.walk_val; (focus (intro wq hq hf; go_wp2; refine ⟨hq, Below.refl _ _, ?_, rfl⟩; (show rel.slot _ _ = _; simp only [rel.slot_lit, List.getD_cons_succ, List.getD_cons_zero]; (first | done | exact rfl)))); (simp only [rel.put_lit, List.set_cons_succ, List.set_cons_zero]))
  refine rel.walk_nil ?_
  intro W11 kwW11 hF
  clear hF
  replace i0 := i0.on kwW11
  replace i1 := i1.on kwW11
  replace B4 := B4.on kwW11
  replace hb := hb.trans (kwW11.mono hb.size)
  have F12 := fn_f x3 _ W11 B4
  refine hK10.out _ _ ?_
  refine wp_seq_k fun K13 hK13 => ?_
  replace hK13 := Lib.hid hK13
  -- region 5 (low.go:177)
  apply rel.seq_tail (hn := by decide) (C := fun w' => Below W11.heap.size W11 w') (X := fun w w' => Below w.heap.size w w') 2 (by kernel_rfl) (by kernel_rfl) (Below.refl _ _)
  (apply rel.walk_val; (focus (intro wq hq hf; go_wp2; refine ⟨hq, Below.refl _ _, ?_, rfl⟩; (show rel.slot _ _ = _; simp only [rel.slot_lit, List.getD_cons_succ, List.getD_cons_zero]; (first | done | exact rfl)))); (simp only [rel.put_lit, List.set_cons_succ, List.set_cons_zero]))
  (apply rel.walk_rel (fun u w' => lst.IsList w' w'.heap.size u (l0)) ⟨_, rfl⟩ (fun u w1 w2 h1 h2 => h2.on h1); (focus (intro wq hq hf; go_wp2_with (go_at_call 13; refine (lst.of_any _ l0 _ (i0.on hq) (by first | omega | simp)).mono ?_; rintro e w'' ⟨⟨u, rfl, hu⟩, hbb⟩); refine ⟨hq.trans (hbb.mono hq.size), hbb, ?_, rfl⟩; (show lst.IsList _ _ (rel.slot _ _) _; simp only [rel.slot_lit, List.getD_cons_succ, List.getD_cons_zero]; exact hu))); (intro u wu _ hu; obtain ⟨p14, rfl, -, -⟩ := hu; (simp only [rel.put_lit, List.set_cons_succ, List.set_cons_zero])))
  refine rel.walk_nil ?_
  intro W15 kwW15 hF
  have f16 : lst.IsList W15 W15.heap.size (lst.lv p14 l0.length) l0 := rel.fact hF 0 rfl
  clear hF
  replace i0 := i0.on kwW15
  replace i1 := i1.on kwW15
  replace B4 := B4.on kwW15
  replace F12 := F12.on kwW15
  replace hb := hb.trans (kwW15.mono hb.size)
  simp only [List.drop_succ_cons, List.drop_zero]
  go_wp2
  obtain ⟨W17, hW17⟩ : ∃ x, (W15.alloc (.cells #[.pointer p14, .int .i64 l0.length] 26)) = x := ⟨_, rfl⟩
  have B18 : hp.Blk W17 (W15.heap.size) 26 [.pointer p14, .int .i64 l0.length] := by rw [← hW17]; (first | exact hp.Blk.newAt (by simp) | exact (hp.Blk.newAt (by simp)).alloc _ | exact ((hp.Blk.newAt (by simp)).alloc _).alloc _ | exact (((hp.Blk.newAt (by simp)).alloc _).alloc _).alloc _ | exact ((((hp.Blk.newAt (by simp)).alloc _).alloc _).alloc _).alloc _ | exact (((((hp.Blk.newAt (by simp)).alloc _).alloc _).alloc _).alloc _).alloc _)
  have kwW17 : Below W15.heap.size W15 W17 := by rw [← hW17]; ((repeat' (first | with_reducible exact Below.refl _ _ | with_reducible apply Below.setCell | with_reducible apply below_drewN | with_reducible apply Below.drew | with_reducible apply Below.alloc | with_reducible refine Below.trans ?_ (Below.mono (by assumption) ?_))) <;> (first | (simp; done) | (simp; omega) | omega))
  rw [hW17]
  clear hW17
  replace i0 := i0.on kwW17
  replace i1 := i1.on kwW17
  replace B4 := B4.on kwW17
  replace F12 := F12.on kwW17
  replace f16 := f16.on kwW17
  replace hb := hb.trans (kwW17.mono hb.size)
  refine hK13.out _ _ ?_
  refine wp_seq_k fun K19 hK19 => ?_
  replace hK19 := Lib.hid hK19
  -- region 6 (low.go:178)
  apply rel.seq_tail (hn := by decide) (C := fun w' => Below W17.heap.size W17 w') (X := fun w w' => Below w.heap.size w w') 2 (by kernel_rfl) (by kernel_rfl) (Below.refl _ _)
  (apply rel.walk_val; (focus (intro wq hq hf; go_wp2; refine ⟨hq, Below.refl _ _, ?_, rfl⟩; (show rel.slot _ _ = _; simp only [rel.slot_lit, List.getD_cons_succ, List.getD_cons_zero]; (first | done | exact rfl)))); (simp only [rel.put_lit, List.set_cons_succ, List.set_cons_zero]))
  (apply rel.walk_rel (fun u w' => lst.IsList w' w'.heap.size u (l1)) ⟨_, rfl⟩ (fun u w1 w2 h1 h2 => h2.on h1); (focus (intro wq hq hf; go_wp2_with (go_at_call 13; refine (lst.of_any _ l1 _ (i1.on hq) (by first | omega | simp)).mono ?_; rintro e w'' ⟨⟨u, rfl, hu⟩, hbb⟩); refine ⟨hq.trans (hbb.mono hq.size), hbb, ?_, rfl⟩; (show lst.IsList _ _ (rel.slot _ _) _; simp only [rel.slot_lit, List.getD_cons_succ, List.getD_cons_zero]; exact hu))); (intro u wu _ hu; obtain ⟨p20, rfl, -, -⟩ := hu; (simp only [rel.put_lit, List.set_cons_succ, List.set_cons_zero])))
  refine rel.walk_nil ?_
  intro W21 kwW21 hF
  have f22 : lst.IsList W21 W21.heap.size (lst.lv p20 l1.length) l1 := rel.fact hF 0 rfl
  clear hF
  replace i0 := i0.on kwW21
  replace i1 := i1.on kwW21
  replace B4 := B4.on kwW21
  replace F12 := F12.on kwW21
  replace f16 := f16.on kwW21
  replace B18 := B18.on kwW21
  replace hb := hb.trans (kwW21.mono hb.size)
  simp only [List.drop_succ_cons, List.drop_zero]
  go_wp2
  obtain ⟨W23, hW23⟩ : ∃ x, (W21.alloc (.cells #[.pointer p20, .int .i64 l1.length] 26)) = x := ⟨_, rfl⟩
  have B24 : hp.Blk W23 (W21.heap.size) 26 [.pointer p20, .int .i64 l1.length] := by rw [← hW23]; (first | exact hp.Blk.newAt (by simp) | exact (hp.Blk.newAt (by simp)).alloc _ | exact ((hp.Blk.newAt (by simp)).alloc _).alloc _ | exact (((hp.Blk.newAt (by simp)).alloc _).alloc _).alloc _ | exact ((((hp.Blk.newAt (by simp)).alloc _).alloc _).alloc _).alloc _ | exact (((((hp.Blk.newAt (by simp)).alloc _).alloc _).alloc _).alloc _).alloc _)
  have kwW23 : Below W21.heap.size W21 W23 := by rw [← hW23]; ((repeat' (first | with_reducible exact Below.refl _ _ | with_reducible apply Below.setCell | with_reducible apply below_drewN | with_reducible apply Below.drew | with_reducible apply Below.alloc | with_reducible refine Below.trans ?_ (Below.mono (by assumption) ?_))) <;> (first | (simp; done) | (simp; omega) | omega))
  rw [hW23]
  clear hW23
  replace i0 := i0.on kwW23
  replace i1 := i1.on kwW23
  replace B4 := B4.on kwW23
  replace F12 := F12.on kwW23
  replace f16 := f16.on kwW23
  replace B18 := B18.on kwW23
  replace f22 := f22.on kwW23
  replace hb := hb.trans (kwW23.mono hb.size)
  refine hK19.out _ _ ?_
  refine wp_seq_k fun K25 hK25 => ?_
  replace hK25 := Lib.hid hK25
  -- region 7 (low.go:179)
  apply rel.seq (C := fun w' => Below W23.heap.size W23 w') (X := fun w w' => Below w.heap.size w w') (by kernel_rfl) (by kernel_rfl) (Below.refl _ _)
  (apply rel.walk_val; (focus (intro wq hq hf; go_wp2; refine ⟨hq, Below.refl _ _, ?_, rfl⟩; (show rel.slot _ _ = _; simp only [rel.slot_lit, List.getD_cons_succ, List.getD_cons_zero]; (first | done | exact rfl)))); (simp only [rel.put_lit, List.set_cons_succ, List.set_cons_zero]))
  (apply rel.walk_val; (focus (intro wq hq hf; go_wp2; refine ⟨hq, Below.refl _ _, ?_, rfl⟩; (show rel.slot _ _ = _; simp only [rel.slot_lit, List.getD_cons_succ, List.getD_cons_zero]; (first | done | exact rfl)))); (simp only [rel.put_lit, List.set_cons_succ, List.set_cons_zero]))
  refine rel.walk_nil ?_
  intro W26 kwW26 hF
  clear hF
  replace i0 := i0.on kwW26
  replace i1 := i1.on kwW26
  replace B4 := B4.on kwW26
  replace F12 := F12.on kwW26
  replace f16 := f16.on kwW26
  replace B18 := B18.on kwW26
  replace f22 := f22.on kwW26
  replace B24 := B24.on kwW26
  replace hb := hb.trans (kwW26.mono hb.size)
  refine hK25.out _ _ ?_
  refine wp_seq_k fun K27 hK27 => ?_
  replace hK27 := Lib.hid hK27
  refine wp_seq_k fun K28 hK28 => ?_
  replace hK28 := Lib.hid hK28
  -- region 8 (low.go:180)
  apply rel.seq (C := fun w' => Below W26.heap.size W26 w') (X := fun w w' => Below w.heap.size w w') (by kernel_rfl) (by kernel_rfl) (Below.refl _ _)
  (apply rel.walk_val; (focus (intro wq hq hf; go_wp2; refine ⟨hq, Below.refl _ _, ?_, rfl⟩; (show rel.slot _ _ = _; simp only [rel.slot_lit, List.getD_cons_succ, List.getD_cons_zero]; (first | done | exact rfl)))); (simp only [rel.put_lit, List.set_cons_succ, List.set_cons_zero]))
  refine rel.walk_nil ?_
  intro W29 kwW29 hF
  clear hF
  replace i0 := i0.on kwW29
  replace i1 := i1.on kwW29
  replace B4 := B4.on kwW29
  replace F12 := F12.on kwW29
  replace f16 := f16.on kwW29
  replace B18 := B18.on kwW29
  replace f22 := f22.on kwW29
  replace B24 := B24.on kwW29
  replace hb := hb.trans (kwW29.mono hb.size)
  refine hK28.out _ _ ?_
  go_wp2_with fail
  go_loopw [13, 14] (fun v i wr => ∃ k n : Nat, ∃ y : Int, v = .int .i64 y ∧ i = .int .i64 k ∧ wr = W29.drewN n ∧ k ≤ l0.length ∧ Hid (y = (l0.take k).foldl (ff x3) x2)) (fun _ i _ => l0.length - (intOf i).toNat)
  case atStart => exact ⟨0, 0, _, rfl, rfl, rfl, by omega, by show _ = _; simp⟩
  case round =>
    obtain ⟨k, n, y, rfl, rfl, rfl, hk, H⟩ := hrel
    by_cases hlt : k < l0.length
    · obtain ⟨aa, cc, hee, _, _, _, hcc⟩ := i0
      obtain ⟨b0, o0, he0, hb0, hd0⟩ := hcc (by omega)
      have hx : W29.cell? ⟨b0, o0 + k, none⟩ = some (.int .i64 (l0.getD k 0)) := hd0 k hlt
      obtain ⟨rfl, -, rfl⟩ : a0 = aa ∧ l0.length = l0.length ∧ c0 = cc := by simpa using hee
      subst he0
      have hs0 := Lib.hid (same.take_snoc l0 k hlt)
      have hda := B4.cell 0
      simp only [List.getElem?_cons_zero] at hda
      clear hcc hd0 hee
      obtain ⟨x, hx0⟩ : ∃ x, x = l0.getD k 0 := ⟨_, rfl⟩
      rw [← hx0] at hx hs0
      clear hx0
      go_wp2_with fail
      (refine reg.region_quiet_again (by kernel_rfl) (by kernel_rfl) ?_; (repeat (go_big_quiet_step ((fail)))); refine wpQuiet_nil ?_; intro _ hw'; obtain ⟨nq, hw''⟩ := hw'; subst hw'')
      go_wp2_with fail
      go_roundw
      case rel => exact ⟨k + 1, _, _, rfl, by go_num, rfl, by omega, by show _ = _; rw [hs0.out, List.foldl_append, ← H.out]; rfl⟩
      case measure => simp [intOf]; omega
    · obtain rfl : k = l0.length := by omega
      obtain rfl : y = l0.foldl (ff x3) x2 := by have := H.out; rwa [List.take_length] at this
      clear H hlt
      go_wp2_with fail
      have kwW30 : Below W29.heap.size W29 (W29.drewN n) := below_drewN (Below.refl _ _) n
      generalize W29.drewN n = W30 at kwW30 ⊢
      replace i0 := i0.on kwW30
      replace i1 := i1.on kwW30
      replace B4 := B4.on kwW30
      replace F12 := F12.on kwW30
      replace f16 := f16.on kwW30
      replace B18 := B18.on kwW30
      replace f22 := f22.on kwW30
      replace B24 := B24.on kwW30
      replace hb := hb.trans (kwW30.mono hb.size)
      refine hK27.out _ _ ?_
      refine wp_seq_k fun K31 hK31 => ?_
      replace hK31 := Lib.hid hK31
      obtain ⟨t33, ht33, bt33⟩ := rel.name_list (l0 ++ l1) 35184372087808 (by simp; omega)
      -- region 12 (low.go:183)
      apply rel.region (C := fun w' => Below W30.heap.size W30 w') (X := fun w w' => Below w.heap.size w w') (by kernel_rfl) (by kernel_rfl) (by kernel_rfl) ((Below.refl _ _).drew)
      ((apply rel.walk_val; (focus (intro wq hq hf; (obtain ⟨d0, d1⟩ := ((B18).below hq (B18).lt).cells2); go_wp2; refine ⟨hq, Below.refl _ _, ?_, rfl⟩; (show rel.slot _ _ = _; simp only [rel.slot_lit, List.getD_cons_succ, List.getD_cons_zero]; (first | done | exact rfl)))); (simp only [rel.put_lit, List.set_cons_succ, List.set_cons_zero])))
      (apply rel.walk_val; (focus (intro wq hq hf; go_wp2; refine ⟨hq, Below.refl _ _, ?_, rfl⟩; (show rel.slot _ _ = _; simp only [rel.slot_lit, List.getD_cons_succ, List.getD_cons_zero]; (first | done | exact rfl)))); (simp only [rel.put_lit, List.set_cons_succ, List.set_cons_zero]))
      (apply rel.walk_val; (focus (intro wq hq hf; go_wp2; refine ⟨hq, Below.refl _ _, ?_, rfl⟩; (show rel.slot _ _ = _; simp only [rel.slot_lit, List.getD_cons_succ, List.getD_cons_zero]; (first | done | exact rfl)))); (simp only [rel.put_lit, List.set_cons_succ, List.set_cons_zero]))
      (apply rel.walk_val; (focus (intro wq hq hf; go_wp2_with (go_at_call 35; refine (lst.fold_any _ l0 x2 _ (ff x3) _ (f16.on hq) (F12.on hq)).mono ?_; rintro e w'' ⟨rfl, hbb⟩); refine ⟨hq.trans (hbb.mono hq.size), hbb, ?_, rfl⟩; (show rel.slot _ _ = _; simp only [rel.slot_lit, List.getD_cons_succ, List.getD_cons_zero]; (first | done | exact rfl)))); (simp only [rel.put_lit, List.set_cons_succ, List.set_cons_zero]))
      (apply rel.walk_val; (focus (intro wq hq hf; go_wp2; refine ⟨hq, Below.refl _ _, ?_, rfl⟩; (show rel.slot _ _ = _; simp only [rel.slot_lit, List.getD_cons_succ, List.getD_cons_zero]; (first | done | exact rfl)))); (simp only [rel.put_lit, List.set_cons_succ, List.set_cons_zero]))
      (apply rel.walk_val; (focus (intro wq hq hf; go_wp2; refine ⟨hq, Below.refl _ _, ?_, rfl⟩; (show rel.slot _ _ = _; simp only [rel.slot_lit, List.getD_cons_succ, List.getD_cons_zero]; (first | done | exact rfl)))); (simp only [rel.put_lit, List.set_cons_succ, List.set_cons_zero]))
      (apply rel.walk_val; (focus (intro wq hq hf; go_wp2; refine ⟨hq, Below.refl _ _, ?_, rfl⟩; (show rel.slot _ _ = _; simp only [rel.slot_lit, List.getD_cons_succ, List.getD_cons_zero]; (first | done | exact rfl)))); (simp only [rel.put_lit, List.set_cons_succ, List.set_cons_zero]))
      ((apply rel.walk_val; (focus (intro wq hq hf; (obtain ⟨d0, d1⟩ := ((B18).below hq (B18).lt).cells2); go_wp2; refine ⟨hq, Below.refl _ _, ?_, rfl⟩; (show rel.slot _ _ = _; simp only [rel.slot_lit, List.getD_cons_succ, List.getD_cons_zero]; (first | done | exact rfl)))); (simp only [rel.put_lit, List.set_cons_succ, List.set_cons_zero])))
      ((apply rel.walk_val; (focus (intro wq hq hf; (obtain ⟨d0, d1⟩ := ((B24).below hq (B24).lt).cells2); go_wp2; refine ⟨hq, Below.refl _ _, ?_, rfl⟩; (show rel.slot _ _ = _; simp only [rel.slot_lit, List.getD_cons_succ, List.getD_cons_zero]; (first | done | exact rfl)))); (simp only [rel.put_lit, List.set_cons_succ, List.set_cons_zero])))
      (apply rel.walk_rel (fun u w' => lst.IsList w' w'.heap.size u (t33)) ⟨_, rfl⟩ (fun u w1 w2 h1 h2 => h2.on h1); (focus (intro wq hq hf; go_wp2_with (go_at_call 21; refine (lst.join_to ht33.out (f16.on hq) (f22.on hq) (by first | omega | simp) (by first | omega | simp)).mono ?_; rintro e w'' ⟨⟨u, rfl, hu⟩, hbb⟩); refine ⟨hq.trans (hbb.mono hq.size), hbb, ?_, rfl⟩; (show lst.IsList _ _ (rel.slot _ _) _; simp only [rel.slot_lit, List.getD_cons_succ, List.getD_cons_zero]; exact hu))); (intro u wu _ hu; obtain ⟨p32, rfl, -, -⟩ := hu; (simp only [rel.put_lit, List.set_cons_succ, List.set_cons_zero])))
      (apply rel.walk_val; (focus (intro wq hq hf; go_wp2; refine ⟨hq, Below.refl _ _, ?_, rfl⟩; (show rel.slot _ _ = _; simp only [rel.slot_lit, List.getD_cons_succ, List.getD_cons_zero]; (first | done | exact rfl)))); (simp only [rel.put_lit, List.set_cons_succ, List.set_cons_zero]))
      (apply rel.walk_val; (focus (intro wq hq hf; go_wp2; refine ⟨hq, Below.refl _ _, ?_, rfl⟩; (show rel.slot _ _ = _; simp only [rel.slot_lit, List.getD_cons_succ, List.getD_cons_zero]; (first | done | exact rfl)))); (simp only [rel.put_lit, List.set_cons_succ, List.set_cons_zero]))
      (apply rel.walk_val; (focus (intro wq hq hf; go_wp2_with (go_at_call 35; refine (lst.fold_any _ t33 x2 _ (ff x3) _ (hf.get 0 rfl rfl) (F12.on hq)).mono ?_; rintro e w'' ⟨rfl, hbb⟩); refine ⟨hq.trans (hbb.mono hq.size), hbb, ?_, rfl⟩; (show rel.slot _ _ = _; simp only [rel.slot_lit, List.getD_cons_succ, List.getD_cons_zero]; (first | done | exact rfl)))); (simp only [rel.put_lit, List.set_cons_succ, List.set_cons_zero]))
      ((apply rel.walk_val; (focus (intro wq hq hf; (obtain ⟨d0, d1⟩ := ((B24).below hq (B24).lt).cells2); go_wp2; refine ⟨hq, Below.refl _ _, ?_, rfl⟩; (show rel.slot _ _ = _; simp only [rel.slot_lit, List.getD_cons_succ, List.getD_cons_zero]; (first | done | exact rfl)))); (simp only [rel.put_lit, List.set_cons_succ, List.set_cons_zero])))
      ((apply rel.walk_val; (focus (intro wq hq hf; (obtain ⟨d0, d1⟩ := ((B18).below hq (B18).lt).cells2); go_wp2; refine ⟨hq, Below.refl _ _, ?_, rfl⟩; (show rel.slot _ _ = _; simp only [rel.slot_lit, List.getD_cons_succ, List.getD_cons_zero]; (first | done | exact rfl)))); (simp only [rel.put_lit, List.set_cons_succ, List.set_cons_zero])))
      (apply rel.walk_val; (focus (intro wq hq hf; go_wp2; refine ⟨hq, Below.refl _ _, ?_, rfl⟩; (show rel.slot _ _ = _; simp only [rel.slot_lit, List.getD_cons_succ, List.getD_cons_zero]; (first | done | exact rfl)))); (simp only [rel.put_lit, List.set_cons_succ, List.set_cons_zero]))
      (apply rel.walk_val; (focus (intro wq hq hf; go_wp2; refine ⟨hq, Below.refl _ _, ?_, rfl⟩; (show rel.slot _ _ = _; simp only [rel.slot_lit, List.getD_cons_succ, List.getD_cons_zero]; (first | done | exact rfl)))); (simp only [rel.put_lit, List.set_cons_succ, List.set_cons_zero]))
      (apply rel.walk_val; (focus (intro wq hq hf; go_wp2_with (go_at_call 35; refine (lst.fold_any _ l0 x2 _ (ff x3) _ (f16.on hq) (F12.on hq)).mono ?_; rintro e w'' ⟨rfl, hbb⟩); refine ⟨hq.trans (hbb.mono hq.size), hbb, ?_, rfl⟩; (show rel.slot _ _ = _; simp only [rel.slot_lit, List.getD_cons_succ, List.getD_cons_zero]; (first | done | exact rfl)))); (simp only [rel.put_lit, List.set_cons_succ, List.set_cons_zero]))
      (apply rel.walk_val; (focus (intro wq hq hf; go_wp2; refine ⟨hq, Below.refl _ _, ?_, rfl⟩; (show rel.slot _ _ = _; simp only [rel.slot_lit, List.getD_cons_succ, List.getD_cons_zero]; (first | done | exact rfl)))); (simp only [rel.put_lit, List.set_cons_succ, List.set_cons_zero]))
      (apply rel.walk_val; (focus (intro wq hq hf; go_wp2_with (go_at_call 35; refine (lst.fold_any _ l1 (l0.foldl (ff x3) x2) _ (ff x3) _ (f22.on hq) (F12.on hq)).mono ?_; rintro e w'' ⟨rfl, hbb⟩); refine ⟨hq.trans (hbb.mono hq.size), hbb, ?_, rfl⟩; (show rel.slot _ _ = _; simp only [rel.slot_lit, List.getD_cons_succ, List.getD_cons_zero]; (first | done | exact rfl)))); (simp only [rel.put_lit, List.set_cons_succ, List.set_cons_zero]))
      (apply rel.walk_val; (focus (intro wq hq hf; (have efold : t33.foldl (ff x3) x2 = l1.foldl (ff x3) (l0.foldl (ff x3) x2) := (by rw [← ht33.out]; simp)); go_wp2; refine ⟨hq, Below.refl _ _, ?_, rfl⟩; (show rel.slot _ _ = _; simp only [rel.slot_lit, List.getD_cons_succ, List.getD_cons_zero]; (first | done | exact rfl)))); (simp only [rel.put_lit, List.set_cons_succ, List.set_cons_zero]))
      (apply rel.walk_val; (focus (intro wq hq hf; go_wp2; refine ⟨hq, Below.refl _ _, ?_, rfl⟩; (show rel.slot _ _ = _; simp only [rel.slot_lit, List.getD_cons_succ, List.getD_cons_zero]; (first | done | exact rfl)))); (simp only [rel.put_lit, List.set_cons_succ, List.set_cons_zero]))
      (apply rel.walk_val; (focus (intro wq hq hf; go_wp2; refine ⟨hq, Below.refl _ _, ?_, rfl⟩; (show rel.slot _ _ = _; simp only [rel.slot_lit, List.getD_cons_succ, List.getD_cons_zero]; (first | done | exact rfl)))); (simp only [rel.put_lit, List.set_cons_succ, List.set_cons_zero]))
      refine rel.walk_nil ?_
      intro W34 kwW34 hF
      clear hF
      replace i0 := i0.on kwW34
      replace i1 := i1.on kwW34
      replace B4 := B4.on kwW34
      replace F12 := F12.on kwW34
      replace f16 := f16.on kwW34
      replace B18 := B18.on kwW34
      replace f22 := f22.on kwW34
      replace B24 := B24.on kwW34
      replace hb := hb.trans (kwW34.mono hb.size)
      refine hK31.out _ _ ?_
      refine wp_ret ?_
      go_ret
      exact ⟨rfl, hb⟩

end Go.Proofs.Ytkhnfkejmhhcjaa.listFolds
