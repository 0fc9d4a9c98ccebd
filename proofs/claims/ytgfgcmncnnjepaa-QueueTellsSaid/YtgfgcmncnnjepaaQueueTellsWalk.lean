/- The walk of QueueTells. -/
import Derived.Test.YtgfgcmncnnjepaaQueWalks
import Derived.Test.YtgfgcmncnnjepaaBools
namespace Go.Proofs.Ytgfgcmncnnjepaa.queueTells
open Go Go.RowKit
set_option linter.unusedVariables false

theorem keepQ {w w' : World} {B : Nat} {v : Value} {l : List Int} (h : que.IsQ w B v l) (hk : lst.KeepC w w') : que.IsQ w' B v l := by
  obtain ⟨p, q, F, K, hv, h1, h2, h3, h4⟩ := h
  exact ⟨p, q, F, K, hv, h1.keep hk, h2.keep hk, h3, h4⟩

set_option maxRecDepth 100000 in
set_option maxHeartbeats 8000000 in
theorem walk (v0 : Value) (l0 : List Int) (v1 : Value) (n1 : Nat) (f1 : Nat → Bool) (w : World) (i0 : hp.IsInts w w.heap.size v0 l0) (i1 : hp.IsBools w w.heap.size v1 n1 f1) (bd0 : l0.length ≤ 17592186043904) :
    Calls Try.prog 3 #[v0, v1] w fun e w' => e = .returned (.bool true) ∧ Below w.heap.size w w' := by
  have hwf0 := i0.wf
  obtain ⟨az, cz, rfl, -, -, -, hcz⟩ := i0
  obtain ⟨ay, cy, rfl, hn1, hcy⟩ := i1
  go_enter Try.func3, Try.ntmps3
  go_wp2_with (go_at_call 6; refine (que.queued_any _).mono ?_; rintro e wa ⟨rfl, hba⟩)
  have hG : que.QAt (wa.alloc (.cells #[.pointer none, .int .i64 0, .pointer none, .int .i64 0] 29)) wa.heap.size [] := ⟨none, 0, none, 0, hp.Blk.new wa [.pointer none, .int .i64 0, .pointer none, .int .i64 0] _, que.IsQ.nil _ _⟩
  have hB : Below w.heap.size w (wa.alloc (.cells #[.pointer none, .int .i64 0, .pointer none, .int .i64 0] 29)) := hba.alloc hba.size _
  have hws := hba.size
  go_loopw [7, 8] (fun va i wr => ∃ (k : Nat) (m : List Int), i = .int .i64 k ∧ k ≤ l0.length ∧ m.length ≤ k ∧ (∀ y ∈ m, (Lit.int .i64 y).wf = true) ∧ Below w.heap.size w wr ∧ que.QAt wr wa.heap.size m ∧ hp.Row wr w.heap.size va m) (fun _ i _ => l0.length - (intOf i).toNat)
  case atStart => exact ⟨0, [], rfl, Nat.zero_le _, by simp, by simp, hB, hG, hp.Row.nil _ _⟩
  case round =>
    clear hB hG hba
    obtain ⟨k, m0, rfl, hk, hmk0, hmw0, hb, hg, hr⟩ := hrel
    by_cases hlt : k < l0.length
    · obtain ⟨b0, o0, rfl, hb0, hd0⟩ := hcz (by omega)
      have hx : wr.cell? ⟨b0, o0 + k, none⟩ = some (.int .i64 (l0.getD k 0)) := (hb.cell (p := ⟨b0, o0 + k, none⟩) hb0).trans (hd0 k hlt)
      have hbw : b0 < wr.heap.size := by have := hb.size; omega
      have hwx : (Lit.int .i64 (l0.getD k 0)).wf = true := hwf0 _ (by simp [hlt])
      obtain ⟨x, hx0⟩ : ∃ x, x = l0.getD k 0 := ⟨_, rfl⟩
      rw [← hx0] at hx hwx
      obtain ⟨m, hmt⟩ : ∃ m, m0 ++ [x] = m := ⟨_, rfl⟩
      have htl : m.length = m0.length + 1 := by rw [← hmt]; simp
      have hmw : ∀ y ∈ m, (Lit.int .i64 y).wf = true := by
        rw [← hmt]
        intro y hy
        rcases List.mem_append.1 hy with h | h
        · exact hmw0 y h
        · obtain rfl : y = x := by simpa using h
          exact hwx
      have hmt := Lib.hid hmt
      have hx00 : w.cell? ⟨b0, o0 + k, none⟩ = some (.int .i64 x) := by rw [hx0]; exact hd0 k hlt
      clear hx0 hd0
      obtain ⟨p, n, q, u, hQB, hQ⟩ := hg
      go_wp2_with fail
      rename_i K1 hK1
      replace hK1 := Lib.hid hK1
      apply rel.region_tail (C := fun w' => Below wr.heap.size wr w') (X := fun w w' => Below w.heap.size w w') 6 (by kernel_rfl) (by kernel_rfl) (by kernel_rfl) (by kernel_rfl) ((Below.refl _ _).drew)
      ((apply rel.walk_val; (focus (intro wq hq hf; (obtain ⟨d0, d1, d2, d3⟩ := ((hQB).below hq (hQB).lt).cells4); go_wp2; refine ⟨hq, Below.refl _ _, ?_, rfl⟩; (show rel.slot _ _ = _; simp only [rel.slot_lit, List.getD_cons_succ, List.getD_cons_zero]; (first | done | exact rfl)))); (simp only [rel.put_lit, List.set_cons_succ, List.set_cons_zero])))
      (apply rel.walk_val; (focus (intro wq hq hf; go_wp2; refine ⟨hq, Below.refl _ _, ?_, rfl⟩; (show rel.slot _ _ = _; simp only [rel.slot_lit, List.getD_cons_succ, List.getD_cons_zero]; (first | done | exact rfl)))); (simp only [rel.put_lit, List.set_cons_succ, List.set_cons_zero]))
      (apply rel.walk_val; (focus (intro wq hq hf; go_wp2; refine ⟨hq, Below.refl _ _, ?_, rfl⟩; (show rel.slot _ _ = _; simp only [rel.slot_lit, List.getD_cons_succ, List.getD_cons_zero]; (first | done | exact rfl)))); (simp only [rel.put_lit, List.set_cons_succ, List.set_cons_zero]))
      (apply rel.walk_val; (focus (intro wq hq hf; go_wp2; refine ⟨hq, Below.refl _ _, ?_, rfl⟩; (show rel.slot _ _ = _; simp only [rel.slot_lit, List.getD_cons_succ, List.getD_cons_zero]; (first | done | exact rfl)))); (simp only [rel.put_lit, List.set_cons_succ, List.set_cons_zero]))
      (apply rel.walk_val; (focus (intro wq hq hf; (have d0 := (hq.cell (p := ⟨b0, o0 + k, none⟩) hbw).trans hx); go_wp2; refine ⟨hq, Below.refl _ _, ?_, rfl⟩; (show rel.slot _ _ = _; simp only [rel.slot_lit, List.getD_cons_succ, List.getD_cons_zero]; (first | done | exact rfl)))); (simp only [rel.put_lit, List.set_cons_succ, List.set_cons_zero]))
      (apply rel.walk_rel (fun u w' => que.IsQ w' w'.heap.size u (m)) ⟨_, rfl⟩ (fun u w1 w2 h1 h2 => h2.on h1); (focus (intro wq hq hf; go_wp2_with (go_at_call 7; refine (que.push_to hmt.out (hQ.on hq) hwx (by omega)).mono ?_; rintro e w'' ⟨⟨u, rfl, hu⟩, hb⟩); refine ⟨hq.trans (hb.mono hq.size), hb, ?_, rfl⟩; (show que.IsQ _ _ (rel.slot _ _) _; simp only [rel.slot_lit, List.getD_cons_succ, List.getD_cons_zero]; exact hu))); (intro u wu _ hu; obtain ⟨pu, qu, Fu, Ku, rfl, -, -, -, -⟩ := hu; (simp only [rel.put_lit, List.set_cons_succ, List.set_cons_zero])))
      refine rel.walk_nil ?_
      intro w9 K9 hF
      have hu : que.IsQ w9 w9.heap.size _ m := hF _ (List.mem_cons_self ..)
      have hR9 := hQB.on K9
      have hr9 := hr.on K9
      have hg0 : wa.heap.size < w9.heap.size := hR9.lt
      obtain ⟨c0, c1, c2, c3⟩ := hR9.cells4
      have cf := hR9.free
      simp only [List.drop_succ_cons, List.drop_zero]
      clear hF
      go_wp2_with fail
      obtain ⟨W1, hW1⟩ : ∃ W1, (((w9.setCell ⟨wa.heap.size, 0, none⟩ (.pointer pu)).setCell ⟨wa.heap.size, 1, none⟩ (.int .i64 (Fu.length : Int))).setCell ⟨wa.heap.size, 2, none⟩ (.pointer qu)).setCell ⟨wa.heap.size, 3, none⟩ (.int .i64 (Ku.length : Int)) = W1 := ⟨_, rfl⟩
      have hb1 : Below w.heap.size w W1 := by
        rw [← hW1]
        exact ((((hb.trans (K9.mono hb.size)).setCell (by simpa using hws) _).setCell (by simpa using hws) _).setCell (by simpa using hws) _).setCell (by simpa using hws) _
      have hgB1 : hp.Blk W1 wa.heap.size 29 [.pointer pu, .int .i64 (Fu.length : Int), .pointer qu, .int .i64 (Ku.length : Int)] := by
        rw [← hW1]
        exact hR9.set4 _ _ _ _
      have hgQ1 : que.IsQ W1 W1.heap.size (que.qv pu (Fu.length : Int) qu (Ku.length : Int)) m := by
        rw [← hW1]
        exact (que.IsQ.set4 hu hR9 _ _ _ _).mono (by simp)
      have hr1 := hr9.set4 hR9 (.pointer pu) (.int .i64 (Fu.length : Int)) (.pointer qu) (.int .i64 (Ku.length : Int))
      rw [hW1] at hr1
      have hx1 := (hb1.cell (p := ⟨b0, o0 + k, none⟩) hb0).trans hx00
      rw [hW1]
      clear hW1 c0 c1 c2 c3 cf hR9 hr9 hu K9 hg0 hx hbw hQB hQ hr hb
      refine hK1.out _ _ ?_
      go_wp2_with (first | (at_builtin; refine hp.append_row rfl _ _ 22 rfl w.heap.size Try.underlying22 same.infoInt _ m0 rfl (hr1.alloc _) W1.heap.size x rfl ((hp.Blk.new W1 [.int .i64 x] 3).cell 0) (by omega) (by have := hb1.size; simp; omega) ?_; intro va2 W2 hr2 hgr2; rename_i K2 hK2; replace hK2 := Lib.hid hK2))
      have hbA : Below W1.heap.size W1 (W1.alloc (.cells #[.int .i64 x] 3)) := (Below.refl _ _).alloc (Nat.le_refl _) _
      have hrA := hr1.alloc (.cells #[.int .i64 x] 3)
      have hb : Below w.heap.size w W2 := (hb1.trans (hbA.mono hb1.size)).grown hgr2 (by have := hb1.size; simp; omega) hrA.ge
      have hQB : hp.Blk W2 wa.heap.size 29 [.pointer pu, .int .i64 (Fu.length : Int), .pointer qu, .int .i64 (Ku.length : Int)] := hrA.blk hgr2 (hgB1.on hbA) (by decide)
      have hQ : que.IsQ W2 W2.heap.size (que.qv pu (Fu.length : Int) qu (Ku.length : Int)) m := (keepQ (hgQ1.on hbA) (lst.KeepC.row hrA hgr2)).mono hgr2.size
      have hr : hp.Row W2 w.heap.size va2 m := by rw [← hmt.out]; exact hr2
      have hmk : m.length ≤ k + 1 := by omega
      clear hbA hrA hb1 hgB1 hgQ1 hr1 hr2 hgr2 hx1 hx00 hmt htl hmk0 hmw0 hwx
      by_cases hkn : k < n1
      · obtain ⟨b1, o1, rfl, hb1, hd1⟩ := hcy (by omega)
        have hy2 := (hb.cell (p := ⟨b1, o1 + k, none⟩) hb1).trans (hd1 k hkn)
        cases hft : f1 k with
        | false =>
          rw [hft] at hy2
          refine hK2.out _ _ ?_
          (obtain ⟨ax, cx, rfl, hcx⟩ := hr.slice); (obtain ⟨c0, c1, c2, c3⟩ := hQB.cells4); go_wp2_with (first | (go_at_call 10; refine (que.ints_any hQ (by omega)).mono ?_; rintro e wb ⟨⟨u, rfl, j1⟩, hbb⟩; clear c0 c1 c2 c3; (replace hQB := hQB.on hbb; replace hQ := hQ.on hbb; replace hr := hr.on hbb; replace hb := hb.trans (hbb.mono hb.size); clear hbb)) | (go_at_call 9; refine (same.ints_eq rfl j1 (hr.ints hmw)).mono ?_; rintro e wc ⟨rfl, hbc⟩; clear j1; (replace hQB := hQB.on hbc; replace hQ := hQ.on hbc; replace hr := hr.on hbc; replace hb := hb.trans (hbc.mono hb.size); clear hbc); obtain ⟨c0, c1, c2, c3⟩ := hQB.cells4) | (go_at_call 11; refine (que.halves_any hQ (by omega)).mono ?_; rintro e wd ⟨⟨f, k', rfl, hfk, hle⟩, hbd⟩; clear c0 c1 c2 c3; (replace hQB := hQB.on hbd; replace hQ := hQ.on hbd; replace hr := hr.on hbd; replace hb := hb.trans (hbd.mono hb.size); clear hbd); obtain ⟨c0, c1, c2, c3⟩ := hQB.cells4) | (go_at_call 12; refine (que.len_any hQ (by omega)).mono ?_; rintro e wf ⟨rfl, hbf⟩; clear c0 c1 c2 c3; (replace hQB := hQB.on hbf; replace hQ := hQ.on hbf; replace hr := hr.on hbf; replace hb := hb.trans (hbf.mono hb.size); clear hbf))); go_roundw; (case rel => exact ⟨k + 1, m, by go_num, by omega, hmk, hmw, hb, ⟨_, _, _, _, hQB, hQ⟩, hr⟩); (case measure => simp [intOf]; omega)
        | true =>
          rw [hft] at hy2
          refine hK2.out _ _ ?_
          go_wp2_with fail
          clear hy2 hd1 hb1
          go_loopw [7, 9] (fun va kk W => ∃ (j : Nat) (m : List Int), kk = .int .i64 j ∧ j ≤ 2 ∧ m.length ≤ k + 1 ∧ (∀ y ∈ m, (Lit.int .i64 y).wf = true) ∧ Below w.heap.size w W ∧ que.QAt W wa.heap.size m ∧ hp.Row W w.heap.size va m) (fun _ kk _ => 2 - (intOf kk).toNat)
          case atStart => exact ⟨0, m, rfl, by decide, hmk, hmw, hb, ⟨_, _, _, _, hQB, hQ⟩, hr⟩
          case round =>
            clear hb hQB hQ hr hmk hmw
            rename World => W
            obtain ⟨j, m, rfl, hj, hmk, hmw, hb, ⟨p, n, q, u, hQB, hQ⟩, hr⟩ := hrel
            by_cases hj2 : j < 2
            · obtain ⟨c0, c1, c2, c3⟩ := hQB.cells4
              cases m with
              | nil =>
                obtain ⟨ax, cx, rfl, hcx⟩ := hr.slice
                go_wp2_with (go_at_call 8; refine (que.pop_nil hQ).mono ?_; rintro e wp ⟨rfl, hbp⟩; clear c0 c1 c2 c3; (replace hQB := hQB.on hbp; replace hQ := hQ.on hbp; replace hr := hr.on hbp; replace hb := hb.trans (hbp.mono hb.size); clear hbp))
                go_roundw
                case rel => exact ⟨j + 1, [], by go_num, by omega, by simp, by simp, hb.alloc hb.size _, ⟨_, _, _, _, hQB.alloc _, hQ.on ((Below.refl _ _).alloc (Nat.le_refl _) _)⟩, hr.alloc _⟩
                case measure => simp [intOf]; omega
              | cons y m =>
                obtain ⟨g, off, cap, rfl, hgl, hgc, hcap⟩ := hr.at
                have hmw2 : ∀ z ∈ m, (Lit.int .i64 z).wf = true := fun z hz => hmw z (List.mem_cons_of_mem _ hz)
                rcases (show cap = 1 ∨ 1 < cap by omega) with rfl | hc1
                · obtain ⟨rfl, -⟩ := hr.tail1
                  go_wp2_with (go_at_call 8; refine (que.pop_cons hQ (by first | decide | (simp at hmk; omega))).mono ?_; rintro e wp ⟨⟨u', rfl, hu⟩, hbp⟩; obtain ⟨p1, n2, q1, m1, rfl⟩ := hu.vals; have hgp := (hbp.cell (p := ⟨g, off, none⟩) hgl).trans hgc; have hglp : g < wp.heap.size := Nat.lt_of_lt_of_le hgl hbp.size; clear c0 c1 c2 c3; (replace hQB := hQB.on hbp; replace hr := hr.on hbp; replace hb := hb.trans (hbp.mono hb.size); clear hbp); have hQA := hQB.alloc (.cells #[.pointer p1, .int .i64 n2, .pointer q1, .int .i64 m1] 29); obtain ⟨c0, c1, c2, c3⟩ := hQA.cells4; have cf := hQA.free)
                  have hbA := hb.alloc hb.size (.cells #[.pointer p1, .int .i64 n2, .pointer q1, .int .i64 m1] 29); have huA := hu.on ((Below.refl _ _).alloc (Nat.le_refl _) (.cells #[.pointer p1, .int .i64 n2, .pointer q1, .int .i64 m1] 29)); clear c0 c1 c2 c3 cf
                  go_roundw
                  case rel => exact ⟨j + 1, [], by go_num, by omega, by simp, by simp, (((hbA.setCell (by simpa using hws) _).setCell (by simpa using hws) _).setCell (by simpa using hws) _).setCell (by simpa using hws) _, ⟨_, _, _, _, hQA.set4 _ _ _ _, (que.IsQ.set4 huA hQA _ _ _ _).mono (by simp)⟩, (hr.tail1.2.alloc _).set4 hQA _ _ _ _⟩
                  case measure => simp [intOf]; omega
                · go_wp2_with (go_at_call 8; refine (que.pop_cons hQ (by first | decide | (simp at hmk; omega))).mono ?_; rintro e wp ⟨⟨u', rfl, hu⟩, hbp⟩; obtain ⟨p1, n2, q1, m1, rfl⟩ := hu.vals; have hgp := (hbp.cell (p := ⟨g, off, none⟩) hgl).trans hgc; have hglp : g < wp.heap.size := Nat.lt_of_lt_of_le hgl hbp.size; clear c0 c1 c2 c3; (replace hQB := hQB.on hbp; replace hr := hr.on hbp; replace hb := hb.trans (hbp.mono hb.size); clear hbp); have hQA := hQB.alloc (.cells #[.pointer p1, .int .i64 n2, .pointer q1, .int .i64 m1] 29); obtain ⟨c0, c1, c2, c3⟩ := hQA.cells4; have cf := hQA.free)
                  have hbA := hb.alloc hb.size (.cells #[.pointer p1, .int .i64 n2, .pointer q1, .int .i64 m1] 29); have huA := hu.on ((Below.refl _ _).alloc (Nat.le_refl _) (.cells #[.pointer p1, .int .i64 n2, .pointer q1, .int .i64 m1] 29)); clear c0 c1 c2 c3 cf
                  go_roundw
                  case rel => exact ⟨j + 1, m, by go_num, by omega, by simp at hmk; omega, hmw2, (((hbA.setCell (by simpa using hws) _).setCell (by simpa using hws) _).setCell (by simpa using hws) _).setCell (by simpa using hws) _, ⟨_, _, _, _, hQA.set4 _ _ _ _, (que.IsQ.set4 huA hQA _ _ _ _).mono (by simp)⟩, (hr.tail.alloc _).set4 hQA _ _ _ _⟩
                  case measure => simp [intOf]; omega
            · obtain rfl : j = 2 := by omega
              (obtain ⟨ax, cx, rfl, hcx⟩ := hr.slice); (obtain ⟨c0, c1, c2, c3⟩ := hQB.cells4); go_wp2_with (first | (go_at_call 10; refine (que.ints_any hQ (by omega)).mono ?_; rintro e wb ⟨⟨u, rfl, j1⟩, hbb⟩; clear c0 c1 c2 c3; (replace hQB := hQB.on hbb; replace hQ := hQ.on hbb; replace hr := hr.on hbb; replace hb := hb.trans (hbb.mono hb.size); clear hbb)) | (go_at_call 9; refine (same.ints_eq rfl j1 (hr.ints hmw)).mono ?_; rintro e wc ⟨rfl, hbc⟩; clear j1; (replace hQB := hQB.on hbc; replace hQ := hQ.on hbc; replace hr := hr.on hbc; replace hb := hb.trans (hbc.mono hb.size); clear hbc); obtain ⟨c0, c1, c2, c3⟩ := hQB.cells4) | (go_at_call 11; refine (que.halves_any hQ (by omega)).mono ?_; rintro e wd ⟨⟨f, k', rfl, hfk, hle⟩, hbd⟩; clear c0 c1 c2 c3; (replace hQB := hQB.on hbd; replace hQ := hQ.on hbd; replace hr := hr.on hbd; replace hb := hb.trans (hbd.mono hb.size); clear hbd); obtain ⟨c0, c1, c2, c3⟩ := hQB.cells4) | (go_at_call 12; refine (que.len_any hQ (by omega)).mono ?_; rintro e wf ⟨rfl, hbf⟩; clear c0 c1 c2 c3; (replace hQB := hQB.on hbf; replace hQ := hQ.on hbf; replace hr := hr.on hbf; replace hb := hb.trans (hbf.mono hb.size); clear hbf))); go_roundw; (case rel => exact ⟨k + 1, m, by go_num, by omega, hmk, hmw, hb, ⟨_, _, _, _, hQB, hQ⟩, hr⟩); (case measure => simp [intOf]; omega)
      · refine hK2.out _ _ ?_
        (obtain ⟨ax, cx, rfl, hcx⟩ := hr.slice); (obtain ⟨c0, c1, c2, c3⟩ := hQB.cells4); go_wp2_with (first | (go_at_call 10; refine (que.ints_any hQ (by omega)).mono ?_; rintro e wb ⟨⟨u, rfl, j1⟩, hbb⟩; clear c0 c1 c2 c3; (replace hQB := hQB.on hbb; replace hQ := hQ.on hbb; replace hr := hr.on hbb; replace hb := hb.trans (hbb.mono hb.size); clear hbb)) | (go_at_call 9; refine (same.ints_eq rfl j1 (hr.ints hmw)).mono ?_; rintro e wc ⟨rfl, hbc⟩; clear j1; (replace hQB := hQB.on hbc; replace hQ := hQ.on hbc; replace hr := hr.on hbc; replace hb := hb.trans (hbc.mono hb.size); clear hbc); obtain ⟨c0, c1, c2, c3⟩ := hQB.cells4) | (go_at_call 11; refine (que.halves_any hQ (by omega)).mono ?_; rintro e wd ⟨⟨f, k', rfl, hfk, hle⟩, hbd⟩; clear c0 c1 c2 c3; (replace hQB := hQB.on hbd; replace hQ := hQ.on hbd; replace hr := hr.on hbd; replace hb := hb.trans (hbd.mono hb.size); clear hbd); obtain ⟨c0, c1, c2, c3⟩ := hQB.cells4) | (go_at_call 12; refine (que.len_any hQ (by omega)).mono ?_; rintro e wf ⟨rfl, hbf⟩; clear c0 c1 c2 c3; (replace hQB := hQB.on hbf; replace hQ := hQ.on hbf; replace hr := hr.on hbf; replace hb := hb.trans (hbf.mono hb.size); clear hbf))); go_roundw; (case rel => exact ⟨k + 1, m, by go_num, by omega, hmk, hmw, hb, ⟨_, _, _, _, hQB, hQ⟩, hr⟩); (case measure => simp [intOf]; omega)
    · obtain rfl : k = l0.length := by omega
      go_wp2_with fail
      go_ret
      exact ⟨rfl, hb⟩
end Go.Proofs.Ytgfgcmncnnjepaa.queueTells
