/- The walk of QueueStays. -/
import Derived.Test.YtgfgcmncnnjepaaQueWalks
namespace Go.Proofs.Ytgfgcmncnnjepaa.queueStays
open Go Go.RowKit
set_option linter.unusedVariables false

set_option maxHeartbeats 8000000 in
theorem walk (v0 : Value) (l0 : List Int) (x1 x2 : Int) (w : World) (i0 : hp.IsInts w w.heap.size v0 l0) (w1 : (Lit.int .i64 x1).wf = true) (w2 : (Lit.int .i64 x2).wf = true) (bd0 : l0.length ≤ 17592186043904) :
    Calls Try.prog 5 #[v0, .int .i64 x1, .int .i64 x2] w fun e w' => e = .returned (.bool true) ∧ Below w.heap.size w w' := by
  have hwf0 := i0.wf
  obtain ⟨it, hit, hz0, hz1, hz2⟩ := info_parts same.infoInt
  have i0' := i0
  obtain ⟨az, cz, rfl, -, -, -, hcz⟩ := i0'
  go_enter Try.func5, Try.ntmps5
  go_wp2_with (go_at_call 6; refine (que.queued_any _).mono ?_; rintro e wa ⟨rfl, hba⟩)
  have hG : que.QAt (wa.alloc (.cells #[.pointer none, .int .i64 0, .pointer none, .int .i64 0] 29)) wa.heap.size [] := ⟨none, 0, none, 0, hp.Blk.new wa [.pointer none, .int .i64 0, .pointer none, .int .i64 0] _, que.IsQ.nil _ _⟩
  have hB : Below w.heap.size w (wa.alloc (.cells #[.pointer none, .int .i64 0, .pointer none, .int .i64 0] 29)) := hba.alloc hba.size _
  go_loopw [9] (fun i wr => ∃ k : Nat, i = .int .i64 k ∧ k ≤ l0.length ∧ Below w.heap.size w wr ∧ que.QAt wr wa.heap.size (l0.take k)) (fun i _ => l0.length - (intOf i).toNat)
  case atStart => exact ⟨0, rfl, Nat.zero_le _, hB, hG⟩
  case round =>
    obtain ⟨k, rfl, hk, hb, hg⟩ := hrel
    by_cases hlt : k < l0.length
    · (obtain ⟨b0, o0, rfl, hb0, hd0⟩ := hcz (by omega)); have hx : wr.cell? ⟨b0, o0 + k, none⟩ = some (.int .i64 (l0.getD k 0)) := (hb.cell (p := ⟨b0, o0 + k, none⟩) hb0).trans (hd0 k hlt); have hbw : b0 < wr.heap.size := (by have := hb.size; omega); have s0 := Lib.hid (same.take_snoc l0 k hlt); have hwx : (Lit.int .i64 (l0.getD k 0)).wf = true := hwf0 _ (by simp [hlt]); (obtain ⟨x, hx0⟩ : ∃ x, x = l0.getD k 0 := ⟨_, rfl⟩); rw [← hx0] at hx s0 hwx; (obtain ⟨t, ht⟩ : ∃ t, t = l0.take k := ⟨_, rfl⟩); have htl : t.length < 35184372088832 := (by rw [ht, List.length_take]; omega); (obtain ⟨t', ht'⟩ : ∃ t', t' = l0.take (k + 1) := ⟨_, rfl⟩); rw [← ht, ← ht'] at s0; rw [← ht] at hg; replace ht' := Lib.hid ht'; clear hx0 ht hd0
      obtain ⟨p, n, q, m, hQB, hQ⟩ := hg
      have hws := hba.size
      clear hG hB hba
      go_wp2_with fail
      apply rel.region_tail (C := fun w' => Below wr.heap.size wr w') (X := fun w w' => Below w.heap.size w w') 6 (by kernel_rfl) (by kernel_rfl) (by kernel_rfl) (by kernel_rfl) ((Below.refl _ _).drew)
      ((apply rel.walk_val; (focus (intro wq hq hf; (obtain ⟨d0, d1, d2, d3⟩ := ((hQB).below hq (hQB).lt).cells4); go_wp2; refine ⟨hq, Below.refl _ _, ?_, rfl⟩; (show rel.slot _ _ = _; simp only [rel.slot_lit, List.getD_cons_succ, List.getD_cons_zero]; (first | done | exact rfl)))); (simp only [rel.put_lit, List.set_cons_succ, List.set_cons_zero])))
      (apply rel.walk_val; (focus (intro wq hq hf; go_wp2; refine ⟨hq, Below.refl _ _, ?_, rfl⟩; (show rel.slot _ _ = _; simp only [rel.slot_lit, List.getD_cons_succ, List.getD_cons_zero]; (first | done | exact rfl)))); (simp only [rel.put_lit, List.set_cons_succ, List.set_cons_zero]))
      (apply rel.walk_val; (focus (intro wq hq hf; go_wp2; refine ⟨hq, Below.refl _ _, ?_, rfl⟩; (show rel.slot _ _ = _; simp only [rel.slot_lit, List.getD_cons_succ, List.getD_cons_zero]; (first | done | exact rfl)))); (simp only [rel.put_lit, List.set_cons_succ, List.set_cons_zero]))
      (apply rel.walk_val; (focus (intro wq hq hf; go_wp2; refine ⟨hq, Below.refl _ _, ?_, rfl⟩; (show rel.slot _ _ = _; simp only [rel.slot_lit, List.getD_cons_succ, List.getD_cons_zero]; (first | done | exact rfl)))); (simp only [rel.put_lit, List.set_cons_succ, List.set_cons_zero]))
      (apply rel.walk_val; (focus (intro wq hq hf; (have d0 := (hq.cell (p := ⟨b0, o0 + k, none⟩) hbw).trans hx); go_wp2; refine ⟨hq, Below.refl _ _, ?_, rfl⟩; (show rel.slot _ _ = _; simp only [rel.slot_lit, List.getD_cons_succ, List.getD_cons_zero]; (first | done | exact rfl)))); (simp only [rel.put_lit, List.set_cons_succ, List.set_cons_zero]))
      (apply rel.walk_rel (fun u w' => que.IsQ w' w'.heap.size u (t')) ⟨_, rfl⟩ (fun u w1 w2 h1 h2 => h2.on h1); (focus (intro wq hq hf; go_wp2_with (go_at_call 7; refine (que.push_to s0.out.symm (hQ.on hq) hwx htl).mono ?_; rintro e w'' ⟨⟨u, rfl, hu⟩, hb⟩); refine ⟨hq.trans (hb.mono hq.size), hb, ?_, rfl⟩; (show que.IsQ _ _ (rel.slot _ _) _; simp only [rel.slot_lit, List.getD_cons_succ, List.getD_cons_zero]; exact hu))); (intro u wu _ hu; obtain ⟨pu, qu, Fu, Ku, rfl, -, -, -, -⟩ := hu; (simp only [rel.put_lit, List.set_cons_succ, List.set_cons_zero])))
      refine rel.walk_nil ?_
      intro w9 K9 hF
      have hu : que.IsQ w9 w9.heap.size _ t' := hF _ (List.mem_cons_self ..)
      have hR9 := hQB.on K9
      have hg0 : wa.heap.size < w9.heap.size := hR9.lt
      obtain ⟨c0, c1, c2, c3⟩ := hR9.cells4
      have cf := hR9.free
      simp only [List.drop_succ_cons, List.drop_zero]
      clear hF
      go_wp2_with fail
      go_roundw
      case rel =>
        refine ⟨k + 1, by go_num, by omega, ?_, ?_⟩
        · exact ((((hb.trans (K9.mono hb.size)).setCell (by simpa using hws) _).setCell (by simpa using hws) _).setCell (by simpa using hws) _).setCell (by simpa using hws) _
        · rw [← ht'.out]
          exact ⟨_, _, _, _, hR9.set4 _ _ _ _, (que.IsQ.set4 hu hR9 _ _ _ _).mono (by simp)⟩
      case measure => simp [intOf]; omega
    · obtain rfl : k = l0.length := by omega
      rw [List.take_length] at hg
      clear hG hB hba hk hlt
      obtain ⟨p, n, q, m, hQB, hQ⟩ := hg
      obtain ⟨lx, hlx⟩ : ∃ lx, l0 ++ [x1] = lx := ⟨_, rfl⟩
      obtain ⟨ly, hly⟩ : ∃ ly, l0 ++ [x2] = ly := ⟨_, rfl⟩
      have hlxl : lx.length ≤ 17592186044416 := by rw [← hlx]; simp; omega
      have hlyl : ly.length ≤ 17592186044416 := by rw [← hly]; simp; omega
      replace hlx := Lib.hid hlx
      replace hly := Lib.hid hly
      have i1 := i0.on hb
      -- a
      obtain ⟨c0, c1, c2, c3⟩ := hQB.cells4
      go_wp2_with fail
      refine (que.push_to hlx.out hQ w1 (by omega)).mono ?_
      rintro e wb ⟨⟨u, rfl, hA⟩, hbb⟩
      obtain ⟨pa, na, qa, ma, rfl⟩ := hA.vals
      replace hQB := hQB.on hbb
      replace hQ := hQ.on hbb
      replace i1 := i1.on hbb
      replace hb := hb.trans (hbb.mono hb.size)
      clear c0 c1 c2 c3 hbb
      obtain ⟨c0, c1, c2, c3⟩ := hQB.cells4
      have hlt := hQB.lt
      go_wp2_with fail
      clear c0 c1 c2 c3 hlt
      (obtain ⟨W1, hW1⟩ : ∃ x, wb.alloc (.cells #[.pointer pa, .int .i64 na, .pointer qa, .int .i64 ma] 29) = x := ⟨_, rfl⟩); have kb : Below wb.heap.size wb W1 := (by rw [← hW1]; exact (Below.refl _ _).alloc (Nat.le_refl _) _); have hAB : hp.Blk W1 wb.heap.size 29 [.pointer pa, .int .i64 na, .pointer qa, .int .i64 ma] := (by rw [← hW1]; exact hp.Blk.new wb [.pointer pa, .int .i64 na, .pointer qa, .int .i64 ma] _); rw [hW1]; clear hW1
      replace hQB := hQB.on kb
      replace hQ := hQ.on kb
      replace i1 := i1.on kb
      replace hA := hA.on kb
      replace hb := hb.trans (kb.mono hb.size)
      clear kb
      -- b
      refine (que.push_to hly.out hQ w2 (by omega)).mono ?_
      rintro e wc ⟨⟨u, rfl, hC⟩, hbc⟩
      obtain ⟨pb, nb, qb, mb, rfl⟩ := hC.vals
      replace hQB := hQB.on hbc
      replace hQ := hQ.on hbc
      replace i1 := i1.on hbc
      replace hA := hA.on hbc
      replace hAB := hAB.on hbc
      replace hb := hb.trans (hbc.mono hb.size)
      clear hbc
      obtain ⟨c0, c1, c2, c3⟩ := hQB.cells4
      have hlt := hQB.lt
      go_wp2_with fail
      clear c0 c1 c2 c3 hlt
      (obtain ⟨W2, hW2⟩ : ∃ x, wc.alloc (.cells #[.pointer pb, .int .i64 nb, .pointer qb, .int .i64 mb] 29) = x := ⟨_, rfl⟩); have kb : Below wc.heap.size wc W2 := (by rw [← hW2]; exact (Below.refl _ _).alloc (Nat.le_refl _) _); have hCB : hp.Blk W2 wc.heap.size 29 [.pointer pb, .int .i64 nb, .pointer qb, .int .i64 mb] := (by rw [← hW2]; exact hp.Blk.new wc [.pointer pb, .int .i64 nb, .pointer qb, .int .i64 mb] _); rw [hW2]; clear hW2
      replace hQB := hQB.on kb
      replace hQ := hQ.on kb
      replace i1 := i1.on kb
      replace hA := hA.on kb
      replace hAB := hAB.on kb
      replace hC := hC.on kb
      replace hb := hb.trans (kb.mono hb.size)
      clear kb
      -- c
      refine (que.pop_gen hQ (by omega)).mono ?_
      rintro e wd ⟨⟨pd, nd, qd, md, rfl, hD⟩, hbd⟩
      replace hQB := hQB.on hbd
      replace hQ := hQ.on hbd
      replace i1 := i1.on hbd
      replace hA := hA.on hbd
      replace hAB := hAB.on hbd
      replace hC := hC.on hbd
      replace hCB := hCB.on hbd
      replace hb := hb.trans (hbd.mono hb.size)
      clear hbd
      obtain ⟨a0, a1, a2, a3⟩ := hAB.cells4
      have hlt := hAB.lt
      go_wp2_with fail
      clear a0 a1 a2 a3 hlt
      (obtain ⟨W3, hW3⟩ : ∃ x, wd.alloc (.cells #[.pointer pd, .int .i64 nd, .pointer qd, .int .i64 md] 29) = x := ⟨_, rfl⟩); have kb : Below wd.heap.size wd W3 := (by rw [← hW3]; exact (Below.refl _ _).alloc (Nat.le_refl _) _); have hDB : hp.Blk W3 wd.heap.size 29 [.pointer pd, .int .i64 nd, .pointer qd, .int .i64 md] := (by rw [← hW3]; exact hp.Blk.new wd [.pointer pd, .int .i64 nd, .pointer qd, .int .i64 md] _); rw [hW3]; clear hW3
      replace hQB := hQB.on kb
      replace hQ := hQ.on kb
      replace i1 := i1.on kb
      replace hA := hA.on kb
      replace hAB := hAB.on kb
      replace hC := hC.on kb
      replace hCB := hCB.on kb
      replace hD := hD.on kb
      replace hb := hb.trans (kb.mono hb.size)
      clear kb
      -- one
      refine (que.ints_any hA (by omega)).mono ?_
      rintro e we ⟨⟨u, rfl, j1⟩, hbe⟩
      replace hQB := hQB.on hbe
      replace hQ := hQ.on hbe
      replace i1 := i1.on hbe
      replace hC := hC.on hbe
      replace hCB := hCB.on hbe
      replace hD := hD.on hbe
      replace hDB := hDB.on hbe
      replace hb := hb.trans (hbe.mono hb.size)
      clear hbe
      go_wp2_with fail
      refine (same.cat_own _ l0 _ [] _ i1 (hp.IsInts.nil _ _) (by simp; omega)).mono ?_
      rintro e wf1 ⟨⟨u, rfl, hr⟩, hbf⟩
      rw [List.append_nil] at hr
      have hszf := hbf.size
      go_wp2_with (at_builtin; refine wpList_append_own _ rfl _ _ 22 rfl we.heap.size 3 it (.int .i64 0) 1 8 Try.underlying22 hit hz0 hz1 hz2 rfl (by decide) _ _ _ rfl (hr.alloc _) ⟨wf1.heap.size, 0, none⟩ 1 1 [.int .i64 x1] rfl rfl (cell_one_new _ _ _) (by simp [Value.oneCell']) (by unfold maxLen; omega) (by omega) (by simp; omega) ?_; intro v1 wg1 hown hgrow _)
      have kb : Below we.heap.size we wg1 := (hbf.alloc hszf _).grown hgrow (by simp; omega) (fun k hk => (hr.lt k hk).1)
      have j2 : hp.IsInts wg1 wg1.heap.size v1 lx := by
        have := hp.IsInts.of_owns (l := l0 ++ [x1]) (by simpa using hown) (by simp) (same.wf_append hwf0 (by simpa using w1))
        rwa [hlx.out] at this
      clear hown hgrow hr hbf hszf
      replace hQB := hQB.on kb
      replace hQ := hQ.on kb
      replace i1 := i1.on kb
      replace hC := hC.on kb
      replace hCB := hCB.on kb
      replace hD := hD.on kb
      replace hDB := hDB.on kb
      replace j1 := j1.on kb
      replace hb := hb.trans (kb.mono hb.size)
      clear kb
      refine (same.ints_eq rfl j1 j2).mono ?_
      rintro e wh1 ⟨rfl, hbh⟩
      clear j2 j1
      replace hQB := hQB.on hbh
      replace hQ := hQ.on hbh
      replace i1 := i1.on hbh
      replace hC := hC.on hbh
      replace hCB := hCB.on hbh
      replace hD := hD.on hbh
      replace hDB := hDB.on hbh
      replace hb := hb.trans (hbh.mono hb.size)
      clear hbh
      -- two
      obtain ⟨a0, a1, a2, a3⟩ := hCB.cells4
      go_wp2_with fail
      clear a0 a1 a2 a3
      refine (que.ints_any hC (by omega)).mono ?_
      rintro e wk ⟨⟨u, rfl, j1⟩, hbe⟩
      replace hQB := hQB.on hbe
      replace hQ := hQ.on hbe
      replace i1 := i1.on hbe
      replace hD := hD.on hbe
      replace hDB := hDB.on hbe
      replace hb := hb.trans (hbe.mono hb.size)
      clear hbe
      go_wp2_with fail
      refine (same.cat_own _ l0 _ [] _ i1 (hp.IsInts.nil _ _) (by simp; omega)).mono ?_
      rintro e wf2 ⟨⟨u, rfl, hr⟩, hbf⟩
      rw [List.append_nil] at hr
      have hszf := hbf.size
      go_wp2_with (at_builtin; refine wpList_append_own _ rfl _ _ 22 rfl wk.heap.size 3 it (.int .i64 0) 1 8 Try.underlying22 hit hz0 hz1 hz2 rfl (by decide) _ _ _ rfl (hr.alloc _) ⟨wf2.heap.size, 0, none⟩ 1 1 [.int .i64 x2] rfl rfl (cell_one_new _ _ _) (by simp [Value.oneCell']) (by unfold maxLen; omega) (by omega) (by simp; omega) ?_; intro v2 wg2 hown hgrow _)
      have kb : Below wk.heap.size wk wg2 := (hbf.alloc hszf _).grown hgrow (by simp; omega) (fun k hk => (hr.lt k hk).1)
      have j2 : hp.IsInts wg2 wg2.heap.size v2 ly := by
        have := hp.IsInts.of_owns (l := l0 ++ [x2]) (by simpa using hown) (by simp) (same.wf_append hwf0 (by simpa using w2))
        rwa [hly.out] at this
      clear hown hgrow hr hbf hszf
      replace hQB := hQB.on kb
      replace hQ := hQ.on kb
      replace i1 := i1.on kb
      replace hD := hD.on kb
      replace hDB := hDB.on kb
      replace j1 := j1.on kb
      replace hb := hb.trans (kb.mono hb.size)
      clear kb
      refine (same.ints_eq rfl j1 j2).mono ?_
      rintro e wh2 ⟨rfl, hbh⟩
      clear j2 j1
      replace hQB := hQB.on hbh
      replace hQ := hQ.on hbh
      replace i1 := i1.on hbh
      replace hD := hD.on hbh
      replace hDB := hDB.on hbh
      replace hb := hb.trans (hbh.mono hb.size)
      clear hbh
      -- three
      obtain ⟨a0, a1, a2, a3⟩ := hQB.cells4
      go_wp2_with fail
      clear a0 a1 a2 a3
      refine (que.ints_any hQ (by omega)).mono ?_
      rintro e wl ⟨⟨u, rfl, j1⟩, hbe⟩
      replace i1 := i1.on hbe
      replace hD := hD.on hbe
      replace hDB := hDB.on hbe
      replace hb := hb.trans (hbe.mono hb.size)
      clear hbe
      go_wp2_with fail
      refine (same.ints_eq rfl j1 i1).mono ?_
      rintro e wm ⟨rfl, hbe⟩
      clear j1
      replace i1 := i1.on hbe
      replace hD := hD.on hbe
      replace hDB := hDB.on hbe
      replace hb := hb.trans (hbe.mono hb.size)
      clear hbe
      by_cases hpos : 0 < l0.length
      · obtain ⟨b0, o0, rfl, hb0, hd0⟩ := hcz hpos
        obtain ⟨z, zs, hz⟩ : ∃ z zs, l0 = z :: zs := by
          cases hl : l0 with
          | nil => rw [hl] at hpos; simp at hpos
          | cons z zs => exact ⟨z, zs, rfl⟩
        have hzl : l0.length = zs.length + 1 := by rw [hz]; simp
        have it2 : ∀ c', zs.length ≤ c' → hp.IsInts wm wm.heap.size (.slice (some ⟨b0, o0 + 1, none⟩) zs.length c') zs := fun c' hc' => hp.IsInts.tail (by rw [← hz]; exact i1) hc'
        have hcap : zs.length + 1 ≤ cz := by have := i1.cap; omega
        have hDz : que.IsQ wm wm.heap.size (que.qv pd nd qd md) zs := by rw [hz] at hD; exact hD
        have hz := Lib.hid hz
        clear hcz hd0 i0 hD i1
        rcases (show cz = 1 ∨ 1 < cz by omega) with rfl | hc1
        · have hzn : zs = [] := List.eq_nil_of_length_eq_zero (by omega)
          have it3 : hp.IsInts wm wm.heap.size (.slice (some ⟨b0, o0, none⟩) 0 0) zs := by
            rw [hzn]
            exact hp.IsInts.zero _ _ _ _
          replace hzn := Lib.hid hzn
          clear it2
          go_wp2_with fail
          apply rel.region (C := fun w' => Below wm.heap.size wm w') (X := fun w w' => Below w.heap.size w w') (by kernel_rfl) (by kernel_rfl) (by kernel_rfl) ((Below.refl _ _).drew)
          ((apply rel.walk_val; (focus (intro wq hq hf; (obtain ⟨d0, d1, d2, d3⟩ := ((hDB).below hq (hDB).lt).cells4); go_wp2; refine ⟨hq, Below.refl _ _, ?_, rfl⟩; (show rel.slot _ _ = _; simp only [rel.slot_lit, List.getD_cons_succ, List.getD_cons_zero]; (first | done | exact rfl)))); (simp only [rel.put_lit, List.set_cons_succ, List.set_cons_zero])))
          (apply rel.walk_rel (fun u w' => hp.IsInts w' w'.heap.size u (zs)) ⟨_, rfl⟩ (fun u w1 w2 h1 h2 => h2.on h1); (focus (intro wq hq hf; go_wp2_with (go_at_call 10; refine (que.ints_any (hDz.on hq) (by omega)).mono ?_; rintro e w'' ⟨⟨u, rfl, hu⟩, hb⟩); refine ⟨hq.trans (hb.mono hq.size), hb, ?_, rfl⟩; (show hp.IsInts _ _ (rel.slot _ _) _; simp only [rel.slot_lit, List.getD_cons_succ, List.getD_cons_zero]; exact hu))); (intro u wu _ hu; obtain ⟨pu_3, cu_3, rfl, -⟩ := hu; (simp only [rel.put_lit, List.set_cons_succ, List.set_cons_zero])))
          (apply rel.walk_val; (focus (intro wq hq hf; go_wp2; refine ⟨hq, Below.refl _ _, ?_, rfl⟩; (show rel.slot _ _ = _; simp only [rel.slot_lit, List.getD_cons_succ, List.getD_cons_zero]; (first | done | exact rfl)))); (simp only [rel.put_lit, List.set_cons_succ, List.set_cons_zero]))
          (apply rel.walk_val; (focus (intro wq hq hf; go_wp2; refine ⟨hq, Below.refl _ _, ?_, rfl⟩; (show rel.slot _ _ = _; simp only [rel.slot_lit, List.getD_cons_succ, List.getD_cons_zero]; (first | done | exact rfl)))); (simp only [rel.put_lit, List.set_cons_succ, List.set_cons_zero]))
          (apply rel.walk_val; (focus (intro wq hq hf; go_wp2_with (go_at_call 9; refine (same.ints_eq rfl (hf.get 0 rfl rfl) ((it3).on hq)).mono ?_; rintro e w'' ⟨rfl, hb⟩); refine ⟨hq.trans (hb.mono hq.size), hb, ?_, rfl⟩; (show rel.slot _ _ = _; simp only [rel.slot_lit, List.getD_cons_succ, List.getD_cons_zero]; (first | done | exact rfl)))); (simp only [rel.put_lit, List.set_cons_succ, List.set_cons_zero]))
          (apply rel.walk_val; (focus (intro wq hq hf; go_wp2; refine ⟨hq, Below.refl _ _, ?_, rfl⟩; (show rel.slot _ _ = _; simp only [rel.slot_lit, List.getD_cons_succ, List.getD_cons_zero]; (first | done | exact rfl)))); (simp only [rel.put_lit, List.set_cons_succ, List.set_cons_zero]))
          refine rel.walk_nil ?_
          intro w9 K9 hF
          clear hF
          go_wp2_with fail
          go_ret
          exact ⟨rfl, hb.trans (K9.mono hb.size)⟩
        · go_wp2_with fail
          apply rel.region (C := fun w' => Below wm.heap.size wm w') (X := fun w w' => Below w.heap.size w w') (by kernel_rfl) (by kernel_rfl) (by kernel_rfl) ((Below.refl _ _).drew)
          ((apply rel.walk_val; (focus (intro wq hq hf; (obtain ⟨d0, d1, d2, d3⟩ := ((hDB).below hq (hDB).lt).cells4); go_wp2; refine ⟨hq, Below.refl _ _, ?_, rfl⟩; (show rel.slot _ _ = _; simp only [rel.slot_lit, List.getD_cons_succ, List.getD_cons_zero]; (first | done | exact rfl)))); (simp only [rel.put_lit, List.set_cons_succ, List.set_cons_zero])))
          (apply rel.walk_rel (fun u w' => hp.IsInts w' w'.heap.size u (zs)) ⟨_, rfl⟩ (fun u w1 w2 h1 h2 => h2.on h1); (focus (intro wq hq hf; go_wp2_with (go_at_call 10; refine (que.ints_any (hDz.on hq) (by omega)).mono ?_; rintro e w'' ⟨⟨u, rfl, hu⟩, hb⟩); refine ⟨hq.trans (hb.mono hq.size), hb, ?_, rfl⟩; (show hp.IsInts _ _ (rel.slot _ _) _; simp only [rel.slot_lit, List.getD_cons_succ, List.getD_cons_zero]; exact hu))); (intro u wu _ hu; obtain ⟨pu_3, cu_3, rfl, -⟩ := hu; (simp only [rel.put_lit, List.set_cons_succ, List.set_cons_zero])))
          (apply rel.walk_val; (focus (intro wq hq hf; go_wp2; refine ⟨hq, Below.refl _ _, ?_, rfl⟩; (show rel.slot _ _ = _; simp only [rel.slot_lit, List.getD_cons_succ, List.getD_cons_zero]; (first | done | exact rfl)))); (simp only [rel.put_lit, List.set_cons_succ, List.set_cons_zero]))
          (apply rel.walk_val; (focus (intro wq hq hf; go_wp2; refine ⟨hq, Below.refl _ _, ?_, rfl⟩; (show rel.slot _ _ = _; simp only [rel.slot_lit, List.getD_cons_succ, List.getD_cons_zero]; (first | done | exact rfl)))); (simp only [rel.put_lit, List.set_cons_succ, List.set_cons_zero]))
          (apply rel.walk_val; (focus (intro wq hq hf; go_wp2_with (go_at_call 9; refine (same.ints_eq rfl (hf.get 0 rfl rfl) ((it2 _ (by omega)).on hq)).mono ?_; rintro e w'' ⟨rfl, hb⟩); refine ⟨hq.trans (hb.mono hq.size), hb, ?_, rfl⟩; (show rel.slot _ _ = _; simp only [rel.slot_lit, List.getD_cons_succ, List.getD_cons_zero]; (first | done | exact rfl)))); (simp only [rel.put_lit, List.set_cons_succ, List.set_cons_zero]))
          (apply rel.walk_val; (focus (intro wq hq hf; go_wp2; refine ⟨hq, Below.refl _ _, ?_, rfl⟩; (show rel.slot _ _ = _; simp only [rel.slot_lit, List.getD_cons_succ, List.getD_cons_zero]; (first | done | exact rfl)))); (simp only [rel.put_lit, List.set_cons_succ, List.set_cons_zero]))
          refine rel.walk_nil ?_
          intro w9 K9 hF
          clear hF
          go_wp2_with fail
          go_ret
          exact ⟨rfl, hb.trans (K9.mono hb.size)⟩
      · go_wp2_with fail
        go_ret
        exact ⟨rfl, hb⟩

end Go.Proofs.Ytgfgcmncnnjepaa.queueStays
