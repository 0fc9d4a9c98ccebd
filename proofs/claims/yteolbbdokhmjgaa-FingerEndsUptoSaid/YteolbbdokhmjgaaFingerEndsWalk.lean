/- The walk of FingerEnds. -/
import Derived.Test.YteolbbdokhmjgaaFinWalks
namespace Go.Proofs.Yteolbbdokhmjgaa.fingerEnds
open Go Go.RowKit Go.Proofs.Yteolbbdokhmjgaa.fin Go.Proofs.Yteolbbdokhmjgaa.mono
set_option linter.unusedVariables false

set_option maxRecDepth 100000 in
set_option maxHeartbeats 8000000 in
theorem walk (v0 : Value) (l0 : List Int) (v1 : Value) (l1 : List Int) (w : World) (i0 : hp.IsInts w w.heap.size v0 l0) (i1 : hp.IsInts w w.heap.size v1 l1) (bd : l0.length + l1.length ≤ 1048576) :
    Calls Try.prog 7 #[v0, v1] w fun e w' => e = .returned (.bool true) ∧ Below w.heap.size w w' := by
  have wf1 := i1.wf
  have O1 := fun W (K : Below w.heap.size w W) => of_any v0 l0 W (i0.on K) (by omega)
  obtain ⟨R, hR⟩ : ∃ R, l0.reverse = R := ⟨_, rfl⟩
  have lR : R.length = l0.length := by rw [← hR]; simp
  have V1 := fun W (K : Below w.heap.size w W) => same.rev_eq hR (i0.on K) (by omega)
  have O2 := fun W u (h : hp.IsInts W W.heap.size u R) => of_any u R W h (by omega)
  obtain ⟨z0, c0, rfl, -, -, -, -⟩ := i0
  obtain ⟨z1, c1, rfl, hnc, -, -, hc⟩ := i1
  obtain ⟨n, hn⟩ : ∃ n, l1.length = n := ⟨_, rfl⟩
  have hc' : ∀ W, Below w.heap.size w W → ∀ j, j < n → ∃ b off, z1 = some ⟨b, off, none⟩ ∧ b < W.heap.size ∧ W.cell? ⟨b, off + j, none⟩ = some (.int .i64 (l1.getD j 0)) := by
    intro W K j hj
    obtain ⟨b, off, e, hb, hcell⟩ := hc (by omega)
    exact ⟨b, off, e, by have := K.size; omega, (K.cell (p := ⟨b, off + j, none⟩) hb).trans (hcell j (by omega))⟩
  rw [hn] at bd ⊢
  have K := Below.refl w.heap.size w
  replace hc' := Lib.hid hc'
  clear hc hnc
  go_enter Try.func7, Try.ntmps7
  go_wp2_with (first
    | (go_at_call 9; (with_reducible refine (fingered_any _).mono ?_); rintro e wa ⟨rfl, hb⟩; (replace K := K.trans ((hb).mono K.size); clear hb))
    | (go_at_call 19; (with_reducible refine (O1 _ K).mono ?_); clear O1; rintro e wb ⟨⟨u, rfl, hA⟩, hb⟩; (obtain ⟨pa, rfl⟩ := hA.val); (replace K := K.trans ((hb).mono K.size); clear hb); replace hA := hA.on ((Below.refl _ _).alloc (Nat.le_refl _) (.cells #[.pointer pa] 28)); have BA := hp.Blk.new wb [.pointer pa] 28; have hga := K.size; replace K := K.alloc K.size (.cells #[.pointer pa] 28))
    | (go_at_call 26; (with_reducible refine (V1 _ K).mono ?_); clear V1; rintro e wc ⟨⟨u, rfl, hi⟩, hb⟩; replace hA := hA.on hb; replace BA := BA.on hb; (replace K := K.trans ((hb).mono K.size); clear hb))
    | (go_at_call 19; (with_reducible refine (O2 _ _ hi).mono ?_); clear O2 hi; rintro e wd ⟨⟨u, rfl, hB⟩, hb⟩; (obtain ⟨pb, rfl⟩ := hB.val); replace hA := hA.on hb; replace BA := BA.on hb; (replace K := K.trans ((hb).mono K.size); clear hb)))
  have hgl := BA.lt
  have hgb := K.size
  have BB := hp.Blk.new wd [.pointer pb] 28
  replace BA := BA.alloc (.cells #[.pointer pb] 28)
  replace hA := hA.on ((Below.refl _ _).alloc (Nat.le_refl _) (.cells #[.pointer pb] 28))
  replace hB := hB.on ((Below.refl _ _).alloc (Nat.le_refl _) (.cells #[.pointer pb] 28))
  replace K := K.alloc K.size (.cells #[.pointer pb] 28)
  have hne : wb.heap.size ≠ wd.heap.size := by omega
  clear hgl
  generalize wb.heap.size = ga at *
  generalize wd.heap.size = gb at *
  go_loopw [8] (fun i W => ∃ (j : Nat) (p q : Option Addr), i = .int .i64 j ∧ j ≤ n ∧ Below w.heap.size w W ∧ hp.Blk W ga 28 [.pointer p] ∧ hp.Blk W gb 28 [.pointer q] ∧ IsT W (.agg #[.pointer p]) (l0 ++ l1.take j) ∧ IsT W (.agg #[.pointer q]) ((l1.take j).reverse ++ R)) (fun i _ => n - (intOf i).toNat)
  case atStart => exact ⟨0, pa, pb, rfl, by omega, K, BA, BB, by simpa using hA, by simpa using hB⟩
  case round =>
    clear BA BB hA hB K
    obtain ⟨j, p, q, rfl, hj, K, BA, BB, hA, hB⟩ := hrel
    by_cases hlt : j < n
    · obtain ⟨b, off, rfl, hbw, kp⟩ := hc'.out wr K j hlt
      have s1 := mono.take_snoc l1 j (by omega)
      obtain ⟨x, hx⟩ : ∃ x, x = l1.getD j 0 := ⟨_, rfl⟩
      rw [← hx] at kp s1
      have hxw : (Lit.int .i64 x).wf = true := wf1 x (by rw [hx]; simp [show j < l1.length by omega])
      obtain ⟨LA, hLA⟩ : ∃ L, l0 ++ l1.take (j + 1) = L := ⟨_, rfl⟩
      obtain ⟨LB, hLB⟩ : ∃ L, (l1.take (j + 1)).reverse ++ R = L := ⟨_, rfl⟩
      have H1 := fun W (h : Below wr.heap.size wr W) => pushRight x LA (hA.on h) hxw (by rw [← hLA, s1, List.append_assoc]) (by rw [← hLA]; simp; omega)
      have H2 := fun W (h : IsT W (.agg #[.pointer q]) ((l1.take j).reverse ++ R)) => pushLeft x LB h hxw (by rw [← hLB, s1]; simp) (by rw [← hLB]; simp; omega)
      have kp2 := fun W (h : Below w.heap.size w W) => (hc'.out W h j hlt)
      have hlA := BA.lt
      replace hx := Lib.hid hx
      replace hLA := Lib.hid hLA
      replace hLB := Lib.hid hLB
      replace kp2 := Lib.hid kp2
      clear s1 hxw
      go_wp2_with fail
      (apply rel.region_tail (C := fun w' => Below wr.heap.size wr w') (X := fun w w' => Below w.heap.size w w') 6 (by kernel_rfl) (by kernel_rfl) (by kernel_rfl) (by kernel_rfl) ((Below.refl _ _).drew); ((apply rel.walk_val; (focus (intro wq hq hf; (have d0 := (((BA).below hq (BA).lt)).cell 0; simp only [List.getElem?_cons_zero] at d0); go_wp2; refine ⟨hq, Below.refl _ _, ?_, rfl⟩; (show rel.slot _ _ = _; simp only [rel.slot_lit, List.getD_cons_succ, List.getD_cons_zero]; (first | done | exact rfl)))); (simp only [rel.put_lit, List.set_cons_succ, List.set_cons_zero]))); (apply rel.walk_val; (focus (intro wq hq hf; go_wp2; refine ⟨hq, Below.refl _ _, ?_, rfl⟩; (show rel.slot _ _ = _; simp only [rel.slot_lit, List.getD_cons_succ, List.getD_cons_zero]; (first | done | exact rfl)))); (simp only [rel.put_lit, List.set_cons_succ, List.set_cons_zero])); (apply rel.walk_val; (focus (intro wq hq hf; go_wp2; refine ⟨hq, Below.refl _ _, ?_, rfl⟩; (show rel.slot _ _ = _; simp only [rel.slot_lit, List.getD_cons_succ, List.getD_cons_zero]; (first | done | exact rfl)))); (simp only [rel.put_lit, List.set_cons_succ, List.set_cons_zero])); (apply rel.walk_val; (focus (intro wq hq hf; go_wp2; refine ⟨hq, Below.refl _ _, ?_, rfl⟩; (show rel.slot _ _ = _; simp only [rel.slot_lit, List.getD_cons_succ, List.getD_cons_zero]; (first | done | exact rfl)))); (simp only [rel.put_lit, List.set_cons_succ, List.set_cons_zero])); ((apply rel.walk_val; (focus (intro wq hq hf; (have d0 := (hq.cell (p := ⟨b, off + j, none⟩) hbw).trans kp); go_wp2; refine ⟨hq, Below.refl _ _, ?_, rfl⟩; (show rel.slot _ _ = _; simp only [rel.slot_lit, List.getD_cons_succ, List.getD_cons_zero]; (first | done | exact rfl)))); (simp only [rel.put_lit, List.set_cons_succ, List.set_cons_zero]))); (apply rel.walk_rel (fun u w' => fin.IsT w' u (LA)) ⟨_, rfl⟩ (fun u w1 w2 h1 h2 => h2.on h1); (focus (intro wq hq hf; go_wp2_with (go_at_call 11; with_reducible refine (H1 _ hq).mono ?_; rintro e w'' ⟨⟨u, rfl, hu⟩, hb⟩); refine ⟨hq.trans (hb.mono hq.size), hb, ?_, rfl⟩; (show fin.IsT _ (rel.slot _ _) _; simp only [rel.slot_lit, List.getD_cons_succ, List.getD_cons_zero]; exact hu))); (intro u wu _ hu; obtain ⟨pu, rfl⟩ := fin.IsT.val hu; (simp only [rel.put_lit, List.set_cons_succ, List.set_cons_zero]))); (refine rel.walk_nil ?_; intro w9 K9 hF; have hu9 := hF _ (List.mem_cons_self ..); clear hF); simp only [List.drop_succ_cons, List.drop_zero])
      have BA9 := BA.on K9
      have d0 := BA9.cell 0
      have df := BA9.free
      simp only [List.getElem?_cons_zero] at d0
      obtain ⟨W2, hW2⟩ : ∃ W2, w9.setCell ⟨ga, 0, none⟩ (.pointer pu) = W2 := ⟨_, rfl⟩
      have BA2 : hp.Blk W2 ga 28 [.pointer pu] := by rw [← hW2]; exact BA9.set 0 _
      have BB2 : hp.Blk W2 gb 28 [.pointer q] := by rw [← hW2]; exact (BB.on K9).other (Ne.symm hne) _
      have hA2 : IsT W2 (.agg #[.pointer pu]) LA := by rw [← hW2]; exact hu9.keep (keep_tree BA9 _ _)
      have hB2 : IsT W2 (.agg #[.pointer q]) ((l1.take j).reverse ++ R) := by rw [← hW2]; exact (hB.on K9).keep (keep_tree BA9 _ _)
      have K2 : Below w.heap.size w W2 := by rw [← hW2]; exact (K.trans (K9.mono K.size)).setCell (p := ⟨ga, 0, none⟩) hga _
      obtain ⟨b2, off2, e2, hbw2, kp3⟩ := kp2.out W2 K2
      rw [← hx.out] at kp3
      cases e2
      have H2' := fun V (h : Below W2.heap.size W2 V) => H2 V (hB2.on h)
      have hlB := BB2.lt
      clear kp hbw H1 H2 hA hB hB2 BA BB BA9 K9 hu9 hx
      go_wp2_with fail
      clear hW2 d0 df
      (apply rel.region_tail (C := fun w' => Below W2.heap.size W2 w') (X := fun w w' => Below w.heap.size w w') 6 (by kernel_rfl) (by kernel_rfl) (by kernel_rfl) (by kernel_rfl) ((Below.refl _ _).drew); ((apply rel.walk_val; (focus (intro wq hq hf; (have d0 := (((BB2).below hq (BB2).lt)).cell 0; simp only [List.getElem?_cons_zero] at d0); go_wp2; refine ⟨hq, Below.refl _ _, ?_, rfl⟩; (show rel.slot _ _ = _; simp only [rel.slot_lit, List.getD_cons_succ, List.getD_cons_zero]; (first | done | exact rfl)))); (simp only [rel.put_lit, List.set_cons_succ, List.set_cons_zero]))); (apply rel.walk_val; (focus (intro wq hq hf; go_wp2; refine ⟨hq, Below.refl _ _, ?_, rfl⟩; (show rel.slot _ _ = _; simp only [rel.slot_lit, List.getD_cons_succ, List.getD_cons_zero]; (first | done | exact rfl)))); (simp only [rel.put_lit, List.set_cons_succ, List.set_cons_zero])); (apply rel.walk_val; (focus (intro wq hq hf; go_wp2; refine ⟨hq, Below.refl _ _, ?_, rfl⟩; (show rel.slot _ _ = _; simp only [rel.slot_lit, List.getD_cons_succ, List.getD_cons_zero]; (first | done | exact rfl)))); (simp only [rel.put_lit, List.set_cons_succ, List.set_cons_zero])); (apply rel.walk_val; (focus (intro wq hq hf; go_wp2; refine ⟨hq, Below.refl _ _, ?_, rfl⟩; (show rel.slot _ _ = _; simp only [rel.slot_lit, List.getD_cons_succ, List.getD_cons_zero]; (first | done | exact rfl)))); (simp only [rel.put_lit, List.set_cons_succ, List.set_cons_zero])); ((apply rel.walk_val; (focus (intro wq hq hf; (have d0 := (hq.cell (p := ⟨b, off + j, none⟩) hbw2).trans kp3); go_wp2; refine ⟨hq, Below.refl _ _, ?_, rfl⟩; (show rel.slot _ _ = _; simp only [rel.slot_lit, List.getD_cons_succ, List.getD_cons_zero]; (first | done | exact rfl)))); (simp only [rel.put_lit, List.set_cons_succ, List.set_cons_zero]))); (apply rel.walk_rel (fun u w' => fin.IsT w' u (LB)) ⟨_, rfl⟩ (fun u w1 w2 h1 h2 => h2.on h1); (focus (intro wq hq hf; go_wp2_with (go_at_call 10; with_reducible refine (H2' _ hq).mono ?_; rintro e w'' ⟨⟨u, rfl, hu⟩, hb⟩); refine ⟨hq.trans (hb.mono hq.size), hb, ?_, rfl⟩; (show fin.IsT _ (rel.slot _ _) _; simp only [rel.slot_lit, List.getD_cons_succ, List.getD_cons_zero]; exact hu))); (intro u wu _ hu; obtain ⟨pu, rfl⟩ := fin.IsT.val hu; (simp only [rel.put_lit, List.set_cons_succ, List.set_cons_zero]))); (refine rel.walk_nil ?_; intro w9 K9 hF; have hu9 := hF _ (List.mem_cons_self ..); clear hF); simp only [List.drop_succ_cons, List.drop_zero])
      have BB9 := BB2.on K9
      have d0 := BB9.cell 0
      have df := BB9.free
      simp only [List.getElem?_cons_zero] at d0
      have hE1 := (hA2.on K9).keep (keep_tree BB9 0 (.pointer pu))
      have hE2 := hu9.keep (keep_tree BB9 0 (.pointer pu))
      have hE3 := (K2.trans (K9.mono K2.size)).setCell (p := ⟨gb, 0, none⟩) hgb (.pointer pu)
      have hE4 := (BA2.on K9).other (a := ⟨gb, 0, none⟩) hne (.pointer pu)
      have hE5 := BB9.set 0 (.pointer pu)
      replace hE1 := Lib.hid hE1
      replace hE2 := Lib.hid hE2
      replace hE3 := Lib.hid hE3
      replace hE4 := Lib.hid hE4
      replace hE5 := Lib.hid hE5
      clear K9 hu9 BB9 hA2 BB2 BA2 H2' kp3
      go_wp2_with fail
      go_roundw
      case rel => exact ⟨j + 1, _, _, by go_num, by omega, hE3.out, hE4.out, hE5.out, by rw [hLA.out]; exact hE1.out, by rw [hLB.out]; exact hE2.out⟩
      case measure => simp [intOf]; omega
    · obtain rfl : j = n := by omega
      rw [← hn, List.take_length] at hA hB
      obtain ⟨L, hL⟩ : ∃ L, l0 ++ l1 = L := ⟨_, rfl⟩
      obtain ⟨M, hM⟩ : ∃ M, l1.reverse ++ R = M := ⟨_, rfl⟩
      have hML : M.reverse = L := by rw [← hM, ← hR, ← hL]; simp
      have hLM : L.reverse = M := by rw [← hML, List.reverse_reverse]
      have lL : L.length = l0.length + j := by rw [← hL, List.length_append, hn]
      have lM : M.length = L.length := by rw [← hLM, List.length_reverse]
      rw [hL] at hA
      rw [hM] at hB
      obtain ⟨x, h, L', HR, HL, hh, lL'⟩ : ∃ (x : Int) (h : Bool) (L' : List Int),
          (∀ W, IsT W (.agg #[.pointer p]) L → Calls Try.prog 14 #[.agg #[.pointer p]] W fun e w' => (∃ q, e = .returned (.tuple #[.int .i64 x, .agg #[.pointer q], .bool h]) ∧ IsT w' (.agg #[.pointer q]) L') ∧ Below W.heap.size W w') ∧
          (∀ W, IsT W (.agg #[.pointer q]) M → Calls Try.prog 13 #[.agg #[.pointer q]] W fun e w' => (∃ q, e = .returned (.tuple #[.int .i64 x, .agg #[.pointer q], .bool h]) ∧ IsT w' (.agg #[.pointer q]) L'.reverse) ∧ Below W.heap.size W w') ∧
          (h = true ∧ 0 < l0.length + j ∨ h = false ∧ l0.length = 0 ∧ j = 0) ∧ L'.length ≤ 1048576 := by
        rcases List.eq_nil_or_concat L with e | ⟨L', x, e⟩
        · subst e
          obtain rfl : M = [] := by rw [← hLM]; rfl
          exact ⟨0, false, [], fun W h => (popRight_nil W h).mono fun e w' ⟨h1, h2⟩ => ⟨⟨none, h1, IsT.nil _⟩, h2⟩, fun W h => (popLeft_nil W h).mono fun e w' ⟨h1, h2⟩ => ⟨⟨none, h1, IsT.nil _⟩, h2⟩, .inr ⟨rfl, by simp at lL; omega, by simp at lL; omega⟩, by simp⟩
        · rw [List.concat_eq_append] at e
          have eM : x :: L'.reverse = M := by rw [← hLM, e]; simp
          have := congrArg List.length e
          rw [List.length_append] at this
          simp at this
          exact ⟨x, true, L', fun W h => popRight L h e.symm (by omega), fun W h => popLeft M h eM (by omega), .inl ⟨rfl, by omega⟩, by omega⟩
      have I1 := fun W (h : Below wr.heap.size wr W) => ints_any _ L W (hA.on h) (by omega)
      have I2 := fun W (h : Below wr.heap.size wr W) => ints_any _ M W (hB.on h) (by omega)
      have V2 := fun W v (h : hp.IsInts W W.heap.size v M) => same.rev_eq hML h (by omega)
      have lA := BA.lt
      have lB := BB.lt
      replace lM := Lib.hid lM
      replace lL := Lib.hid lL
      clear hML hLM hL hM hc'
      go_wp2_with fail
      apply rel.region (C := fun w' => Below wr.heap.size wr w') (X := fun w w' => Below w.heap.size w w') (by kernel_rfl) (by kernel_rfl) (by kernel_rfl) ((Below.refl _ _).drew)
      ((apply rel.walk_val; (focus (intro wq hq hf; (have d0 := (((BA).below hq (BA).lt)).cell 0; simp only [List.getElem?_cons_zero] at d0); go_wp2; refine ⟨hq, Below.refl _ _, ?_, rfl⟩; (show rel.slot _ _ = _; simp only [rel.slot_lit, List.getD_cons_succ, List.getD_cons_zero]; (first | done | exact rfl)))); (simp only [rel.put_lit, List.set_cons_succ, List.set_cons_zero])))
      (apply rel.walk_rel (fun u w' => hp.IsInts w' w'.heap.size u (L)) ⟨_, rfl⟩ (fun u w1 w2 h1 h2 => h2.on h1); (focus (intro wq hq hf; go_wp2_with (go_at_call 16; refine (I1 _ hq).mono ?_; rintro e w'' ⟨⟨u, rfl, hu⟩, hb⟩); refine ⟨hq.trans (hb.mono hq.size), hb, ?_, rfl⟩; (show hp.IsInts _ _ (rel.slot _ _) _; simp only [rel.slot_lit, List.getD_cons_succ, List.getD_cons_zero]; exact hu))); (intro u wu _ hu; obtain ⟨pu, cu, rfl, -⟩ := hu; (simp only [rel.put_lit, List.set_cons_succ, List.set_cons_zero])))
      ((apply rel.walk_val; (focus (intro wq hq hf; (have d0 := (((BB).below hq (BB).lt)).cell 0; simp only [List.getElem?_cons_zero] at d0); go_wp2; refine ⟨hq, Below.refl _ _, ?_, rfl⟩; (show rel.slot _ _ = _; simp only [rel.slot_lit, List.getD_cons_succ, List.getD_cons_zero]; (first | done | exact rfl)))); (simp only [rel.put_lit, List.set_cons_succ, List.set_cons_zero])))
      (apply rel.walk_rel (fun u w' => hp.IsInts w' w'.heap.size u (M)) ⟨_, rfl⟩ (fun u w1 w2 h1 h2 => h2.on h1); (focus (intro wq hq hf; go_wp2_with (go_at_call 16; refine (I2 _ hq).mono ?_; rintro e w'' ⟨⟨u, rfl, hu⟩, hb⟩); refine ⟨hq.trans (hb.mono hq.size), hb, ?_, rfl⟩; (show hp.IsInts _ _ (rel.slot _ _) _; simp only [rel.slot_lit, List.getD_cons_succ, List.getD_cons_zero]; exact hu))); (intro u wu _ hu; obtain ⟨pu_1, cu_1, rfl, -⟩ := hu; (simp only [rel.put_lit, List.set_cons_succ, List.set_cons_zero])))
      (apply rel.walk_rel (fun u w' => hp.IsInts w' w'.heap.size u (L)) ⟨_, rfl⟩ (fun u w1 w2 h1 h2 => h2.on h1); (focus (intro wq hq hf; go_wp2_with (go_at_call 26; refine (V2 _ _ (hf.get 0 rfl rfl)).mono ?_; rintro e w'' ⟨⟨u, rfl, hu⟩, hb⟩); refine ⟨hq.trans (hb.mono hq.size), hb, ?_, rfl⟩; (show hp.IsInts _ _ (rel.slot _ _) _; simp only [rel.slot_lit, List.getD_cons_succ, List.getD_cons_zero]; exact hu))); (intro u wu _ hu; obtain ⟨pu_2, cu_2, rfl, -⟩ := hu; (simp only [rel.put_lit, List.set_cons_succ, List.set_cons_zero])))
      (apply rel.walk_val; (focus (intro wq hq hf; go_wp2_with (go_at_call 15; refine (same.ints_eq rfl (hf.get 2 rfl rfl) (hf.get 0 rfl rfl)).mono ?_; rintro e w'' ⟨rfl, hb⟩); refine ⟨hq.trans (hb.mono hq.size), hb, ?_, rfl⟩; (show rel.slot _ _ = _; simp only [rel.slot_lit, List.getD_cons_succ, List.getD_cons_zero]; (first | done | exact rfl)))); (simp only [rel.put_lit, List.set_cons_succ, List.set_cons_zero]))
      (apply rel.walk_val; (focus (intro wq hq hf; go_wp2; refine ⟨hq, Below.refl _ _, ?_, rfl⟩; (show rel.slot _ _ = _; simp only [rel.slot_lit, List.getD_cons_succ, List.getD_cons_zero]; (first | done | exact rfl)))); (simp only [rel.put_lit, List.set_cons_succ, List.set_cons_zero]))
      refine rel.walk_nil ?_
      intro w9 K9 hF
      clear hF I1 I2 V2
      have BA9 := BA.on K9
      have BB9 := BB.on K9
      have hA9 := hA.on K9
      have hB9 := hB.on K9
      have a0 := BA9.cell 0
      have b0 := BB9.cell 0
      have la9 := BA9.lt
      have lb9 := BB9.lt
      have K2 := K.trans (K9.mono K.size)
      simp only [List.getElem?_cons_zero] at a0 b0
      have hP := HR _ hA9
      clear HR hA hB BA BB lA lB K9 hA9 BA9
      go_wp2_with (first
        | (go_at_call 14; (with_reducible refine hP.mono ?_); clear hP; rintro e wx ⟨⟨qx, rfl, hx⟩, hb⟩; have BX := hp.Blk.new wx [.pointer qx] 28; replace hx := hx.on ((Below.refl _ _).alloc (Nat.le_refl _) (.cells #[.pointer qx] 28)); have BBx := (BB9.on hb).alloc (.cells #[.pointer qx] 28); replace hB9 := (hB9.on hb).on ((Below.refl _ _).alloc (Nat.le_refl _) (.cells #[.pointer qx] 28)); have b0' := BBx.cell 0; simp only [List.getElem?_cons_zero] at b0'; have lbx := BBx.lt; replace K2 := K2.trans (hb.mono K2.size); replace K2 := K2.alloc K2.size (.cells #[.pointer qx] 28); have hP2 := HL _ hB9; clear b0 hb)
        | (go_at_call 13; (with_reducible refine hP2.mono ?_); clear hP2; rintro e wy ⟨⟨qy, rfl, hy⟩, hb⟩; have BY := hp.Blk.new wy [.pointer qy] 28; replace hy := hy.on ((Below.refl _ _).alloc (Nat.le_refl _) (.cells #[.pointer qy] 28)); replace BX := (BX.on hb).alloc (.cells #[.pointer qy] 28); replace hx := (hx.on hb).on ((Below.refl _ _).alloc (Nat.le_refl _) (.cells #[.pointer qy] 28)); replace K2 := K2.trans (hb.mono K2.size); replace K2 := K2.alloc K2.size (.cells #[.pointer qy] 28); clear hb))
      have I3 := fun W (h : Below _ _ W) => ints_any _ L' W (hx.on h) (by omega)
      have I4 := fun W (h : Below _ _ W) => ints_any _ L'.reverse W (hy.on h) (by simp; omega)
      have V3 := fun W v (h : hp.IsInts W W.heap.size v L'.reverse) => same.rev_eq (List.reverse_reverse L') h (by simp; omega)
      generalize L'.reverse = M' at *
      generalize wy.alloc (.cells #[.pointer qy] 28) = W at *
      have lX := BX.lt
      have lY := BY.lt
      apply rel.region (C := fun w' => Below W.heap.size W w') (X := fun w w' => Below w.heap.size w w') (by kernel_rfl) (by kernel_rfl) (by kernel_rfl) ((Below.refl _ _).drew)
      ((apply rel.walk_val; (focus (intro wq hq hf; (have d0 := (((BX).below hq (BX).lt)).cell 0; simp only [List.getElem?_cons_zero] at d0); go_wp2; refine ⟨hq, Below.refl _ _, ?_, rfl⟩; (show rel.slot _ _ = _; simp only [rel.slot_lit, List.getD_cons_succ, List.getD_cons_zero]; (first | done | exact rfl)))); (simp only [rel.put_lit, List.set_cons_succ, List.set_cons_zero])))
      (apply rel.walk_rel (fun u w' => hp.IsInts w' w'.heap.size u (L')) ⟨_, rfl⟩ (fun u w1 w2 h1 h2 => h2.on h1); (focus (intro wq hq hf; go_wp2_with (go_at_call 16; refine (I3 _ hq).mono ?_; rintro e w'' ⟨⟨u, rfl, hu⟩, hb⟩); refine ⟨hq.trans (hb.mono hq.size), hb, ?_, rfl⟩; (show hp.IsInts _ _ (rel.slot _ _) _; simp only [rel.slot_lit, List.getD_cons_succ, List.getD_cons_zero]; exact hu))); (intro u wu _ hu; obtain ⟨pu, cu, rfl, -⟩ := hu; (simp only [rel.put_lit, List.set_cons_succ, List.set_cons_zero])))
      ((apply rel.walk_val; (focus (intro wq hq hf; (have d0 := (((BY).below hq (BY).lt)).cell 0; simp only [List.getElem?_cons_zero] at d0); go_wp2; refine ⟨hq, Below.refl _ _, ?_, rfl⟩; (show rel.slot _ _ = _; simp only [rel.slot_lit, List.getD_cons_succ, List.getD_cons_zero]; (first | done | exact rfl)))); (simp only [rel.put_lit, List.set_cons_succ, List.set_cons_zero])))
      (apply rel.walk_rel (fun u w' => hp.IsInts w' w'.heap.size u (M')) ⟨_, rfl⟩ (fun u w1 w2 h1 h2 => h2.on h1); (focus (intro wq hq hf; go_wp2_with (go_at_call 16; refine (I4 _ hq).mono ?_; rintro e w'' ⟨⟨u, rfl, hu⟩, hb⟩); refine ⟨hq.trans (hb.mono hq.size), hb, ?_, rfl⟩; (show hp.IsInts _ _ (rel.slot _ _) _; simp only [rel.slot_lit, List.getD_cons_succ, List.getD_cons_zero]; exact hu))); (intro u wu _ hu; obtain ⟨pu_1, cu_1, rfl, -⟩ := hu; (simp only [rel.put_lit, List.set_cons_succ, List.set_cons_zero])))
      (apply rel.walk_rel (fun u w' => hp.IsInts w' w'.heap.size u (L')) ⟨_, rfl⟩ (fun u w1 w2 h1 h2 => h2.on h1); (focus (intro wq hq hf; go_wp2_with (go_at_call 26; refine (V3 _ _ (hf.get 0 rfl rfl)).mono ?_; rintro e w'' ⟨⟨u, rfl, hu⟩, hb⟩); refine ⟨hq.trans (hb.mono hq.size), hb, ?_, rfl⟩; (show hp.IsInts _ _ (rel.slot _ _) _; simp only [rel.slot_lit, List.getD_cons_succ, List.getD_cons_zero]; exact hu))); (intro u wu _ hu; obtain ⟨pu_2, cu_2, rfl, -⟩ := hu; (simp only [rel.put_lit, List.set_cons_succ, List.set_cons_zero])))
      (apply rel.walk_val; (focus (intro wq hq hf; go_wp2_with (go_at_call 15; refine (same.ints_eq rfl (hf.get 2 rfl rfl) (hf.get 0 rfl rfl)).mono ?_; rintro e w'' ⟨rfl, hb⟩); refine ⟨hq.trans (hb.mono hq.size), hb, ?_, rfl⟩; (show rel.slot _ _ = _; simp only [rel.slot_lit, List.getD_cons_succ, List.getD_cons_zero]; (first | done | exact rfl)))); (simp only [rel.put_lit, List.set_cons_succ, List.set_cons_zero]))
      (apply rel.walk_val; (focus (intro wq hq hf; go_wp2; refine ⟨hq, Below.refl _ _, ?_, rfl⟩; (show rel.slot _ _ = _; simp only [rel.slot_lit, List.getD_cons_succ, List.getD_cons_zero]; (first | done | exact rfl)))); (simp only [rel.put_lit, List.set_cons_succ, List.set_cons_zero]))
      refine rel.walk_nil ?_
      intro w10 K10 hF
      clear hF I3 I4 V3
      have K11 := K2.trans (K10.mono K2.size)
      clear K10 K2 BX BY hx hy
      obtain ⟨m, hm⟩ : ∃ m, l0.length = m := ⟨_, rfl⟩
      rw [hm] at hh bd ⊢
      clear hm lL lM lL'
      rcases hh with ⟨rfl, hpos⟩ | ⟨rfl, rfl, rfl⟩
      · have hp2 : (0 : Int) < (m : Int) + (j : Int) := by omega
        go_wp2_with fail
        go_ret
        exact ⟨rfl, K11⟩
      · go_wp2_with fail
        go_ret
        exact ⟨rfl, K11⟩
end Go.Proofs.Yteolbbdokhmjgaa.fingerEnds
