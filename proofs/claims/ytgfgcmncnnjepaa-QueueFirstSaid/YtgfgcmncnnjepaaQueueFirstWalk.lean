/- The walk of QueueFirst. -/
import Derived.Test.YtgfgcmncnnjepaaQueWalks
namespace Go.Proofs.Ytgfgcmncnnjepaa.queueFirst
open Go Go.RowKit
set_option linter.unusedVariables false

set_option maxHeartbeats 8000000 in
theorem walk (v0 : Value) (l0 : List Int) (w : World) (i0 : hp.IsInts w w.heap.size v0 l0) (bd0 : l0.length ≤ 17592186043904) :
    Calls Try.prog 4 #[v0] w fun e w' => e = .returned (.bool true) ∧ Below w.heap.size w w' := by
  have hwf0 := i0.wf
  have i0' := i0
  obtain ⟨az, cz, rfl, -, -, -, hcz⟩ := i0'
  go_enter Try.func4, Try.ntmps4
  go_wp2_with (go_at_call 6; refine (que.queued_any _).mono ?_; rintro e wa ⟨rfl, hba⟩)
  have hG : que.QAt (wa.alloc (.cells #[.pointer none, .int .i64 0, .pointer none, .int .i64 0] 29)) wa.heap.size [] := ⟨none, 0, none, 0, hp.Blk.new wa [.pointer none, .int .i64 0, .pointer none, .int .i64 0] _, que.IsQ.nil _ _⟩
  have hB : Below w.heap.size w (wa.alloc (.cells #[.pointer none, .int .i64 0, .pointer none, .int .i64 0] 29)) := hba.alloc hba.size _
  go_loopw [5] (fun i wr => ∃ k : Nat, i = .int .i64 k ∧ k ≤ l0.length ∧ Below w.heap.size w wr ∧ que.QAt wr wa.heap.size (l0.take k)) (fun i _ => l0.length - (intOf i).toNat)
  case atStart => exact ⟨0, rfl, Nat.zero_le _, hB, hG⟩
  case round =>
    obtain ⟨k, rfl, hk, hb, hg⟩ := hrel
    by_cases hlt : k < l0.length
    · (obtain ⟨b0, o0, rfl, hb0, hd0⟩ := hcz (by omega)); have hx : wr.cell? ⟨b0, o0 + k, none⟩ = some (.int .i64 (l0.getD k 0)) := (hb.cell (p := ⟨b0, o0 + k, none⟩) hb0).trans (hd0 k hlt); have hbw : b0 < wr.heap.size := (by have := hb.size; omega); have s0 := Lib.hid (same.take_snoc l0 k hlt); have hwx : (Lit.int .i64 (l0.getD k 0)).wf = true := hwf0 _ (by simp [hlt]); (obtain ⟨x, hx0⟩ : ∃ x, x = l0.getD k 0 := ⟨_, rfl⟩); rw [← hx0] at hx s0 hwx; (obtain ⟨t, ht⟩ : ∃ t, t = l0.take k := ⟨_, rfl⟩); have htl : t.length < 35184372088832 := (by rw [ht, List.length_take]; omega); (obtain ⟨t', ht'⟩ : ∃ t', t' = l0.take (k + 1) := ⟨_, rfl⟩); rw [← ht, ← ht'] at s0; rw [← ht] at hg; replace ht' := Lib.hid ht'; clear hx0 ht hd0
      obtain ⟨p, n, q, m, hQB, hQ⟩ := hg
      have hws := hba.size
      clear hG hB hba
      go_wp2_with fail
      apply rel.region_tail (C := fun w' => Below wr.heap.size wr w') (X := fun w w' => Below w.heap.size w w') 6 (by kernel_rfl) (by kernel_rfl) (by kernel_rfl) (by kernel_rfl) ((Below.refl _ _).drew)
      ((apply rel.walk_val; (focus (intro wq hq hf; (obtain ⟨d0, d1, d2, d3⟩ := ((hQB).below hq (hQB).lt).cells4); go_wp2; refine ⟨hq, Below.refl _ _, ?_, rfl⟩; (show rel.slot _ _ = _; simp only [rel.slot_lit, List.getD_cons_succ, List.getD_cons_zero]; (first | done | exact rfl)))); (simp only [rel.put_lit, List.set_cons_succ, List.set_cons_zero])))
      (apply rel.walk_val; (focus (intro wq hq hf; go_wp2; refine ⟨hq, Below.refl _ _, ?_, rfl⟩; (show rel.slot _ _ = _; simp only [rel.slot_lit, List.getD_cons_succ, List.getD_cons_zero]; (first | done | exact rfl)))); (simp only [rel.put_lit, List.set_cons_succ, List.set_cons_zero]))
      (apply rel.walk_val; (focus (intro wq hq hf; go_wp2; refine ⟨hq, Below.refl _ _, ?_, rfl⟩; (show rel.slot _ _ = _; simp only [rel.slot_lit, List.getD_cons_succ, List.getD_cons_zero]; (first | done | exact rfl)))); (simp only [rel.put_lit, List.set_cons_succ, List.set_cons_zero]))
      (apply rel.walk_val; (focus (intro wq hq hf; go_wp2; refine ⟨hq, Below.refl _ _, ?_, rfl⟩; (show rel.slot _ _ = _; simp only [rel.slot_lit, List.getD_cons_succ, List.getD_cons_zero]; (first | done | exact rfl)))); (simp only [rel.put_lit, List.set_cons_succ, List.set_cons_zero]))
      (apply rel.walk_val; (focus (intro wq hq hf; (have d0 := (hq.cell (p := ⟨b0, o0 + k, none⟩) hbw).trans hx); go_wp2; refine ⟨hq, Below.refl _ _, ?_, rfl⟩; (show rel.slot _ _ = _; simp only [rel.slot_lit, List.getD_cons_succ, List.getD_cons_zero]; (first | done | exact rfl)))); (simp only [rel.put_lit, List.set_cons_succ, List.set_cons_zero]))
      (apply rel.walk_rel (fun u w' => que.IsQ w' w'.heap.size u (t')) ⟨_, rfl⟩ (fun u w1 w2 h1 h2 => h2.on h1); (focus (intro wq hq hf; go_wp2_with (go_at_call 7; refine (que.push_to s0.out.symm (hQ.on hq) hwx htl).mono ?_; rintro e w'' ⟨⟨u, rfl, hu⟩, hb⟩); refine ⟨hq.trans (hb.mono hq.size), hb, ?_, rfl⟩; (show que.IsQ _ _ (rel.slot _ _) _; simp only [rel.slot_lit, List.getD_cons_succ, List.getD_cons_zero]; exact hu))); (intro u wu _ hu; obtain ⟨pu, qu, Fu, Ku, rfl, -, -, -, -⟩ := hu; (simp only [rel.put_lit, List.set_cons_succ, List.set_cons_zero])))
      refine rel.walk_nil ?_
      intro w9 K9 hF
      have hu : que.IsQ w9 w9.heap.size _ t' := hF _ (List.mem_cons_self ..)
      have hR9 := hQB.on K9
      have hg0 : wa.heap.size < w9.heap.size := hR9.lt
      obtain ⟨c0, c1, c2, c3⟩ := hR9.cells4
      have cf := hR9.free
      simp only [List.drop_succ_cons, List.drop_zero]
      clear hF
      go_wp2_with fail
      go_roundw
      case rel =>
        refine ⟨k + 1, by go_num, by omega, ?_, ?_⟩
        · exact ((((hb.trans (K9.mono hb.size)).setCell (by simpa using hws) _).setCell (by simpa using hws) _).setCell (by simpa using hws) _).setCell (by simpa using hws) _
        · rw [← ht'.out]
          exact ⟨_, _, _, _, hR9.set4 _ _ _ _, (que.IsQ.set4 hu hR9 _ _ _ _).mono (by simp)⟩
      case measure => simp [intOf]; omega
    · obtain rfl : k = l0.length := by omega
      rw [List.take_length] at hg
      have hws := hba.size
      clear hG hB hba hk hlt
      go_wp2_with fail
      go_loopw [6] (fun i W => ∃ k : Nat, i = .int .i64 k ∧ k ≤ l0.length ∧ Below w.heap.size w W ∧ que.QAt W wa.heap.size (l0.drop k)) (fun i _ => l0.length - (intOf i).toNat)
      case atStart => exact ⟨0, rfl, Nat.zero_le _, hb, by simpa using hg⟩
      case round =>
        clear hb hg
        rename World => W
        obtain ⟨k, rfl, hk, hb, hg⟩ := hrel
        by_cases hlt : k < l0.length
        · obtain ⟨b0, o0, rfl, hb0, hd0⟩ := hcz (by omega)
          have hx : W.cell? ⟨b0, o0 + k, none⟩ = some (.int .i64 (l0.getD k 0)) := (hb.cell (p := ⟨b0, o0 + k, none⟩) hb0).trans (hd0 k hlt)
          have hbw : b0 < W.heap.size := by have := hb.size; omega
          rw [lst.getD_drop l0 k hlt] at hg
          obtain ⟨x, hx0⟩ : ∃ x, x = l0.getD k 0 := ⟨_, rfl⟩
          obtain ⟨t, ht⟩ : ∃ t, t = l0.drop (k + 1) := ⟨_, rfl⟩
          have htl : (t.length : Int) = (l0.length : Int) - (k : Int) - 1 := by rw [ht, List.length_drop]; omega
          have htb : t.length < 35184372088832 := by omega
          rw [← hx0] at hx hg
          rw [← ht] at hg
          replace ht := Lib.hid ht
          replace htl := Lib.hid htl
          clear hx0 hd0
          obtain ⟨p, n, q, m, hQB, hQ⟩ := hg
          obtain ⟨c0, c1, c2, c3⟩ := hQB.cells4
          go_wp2_with (first
            | (go_at_call 8; refine (que.pop_cons hQ htb).mono ?_; rintro e wp ⟨⟨u, rfl, hu⟩, hbp⟩; obtain ⟨p1, n1, q1, m1, rfl⟩ := hu.vals; have hxp := (hbp.cell (p := ⟨b0, o0 + k, none⟩) hbw).trans hx; clear c0 c1 c2 c3; have hbq : b0 < wp.heap.size := Nat.lt_of_lt_of_le hbw hbp.size)
            | (go_at_call 12; refine (que.len_any (hu.on ((Below.refl _ _).alloc (Nat.le_refl _) _)) htb).mono ?_; rintro e wd ⟨rfl, hbd⟩; have htl' := htl.out; have hN := (hp.Blk.new wp [.pointer p1, .int .i64 n1, .pointer q1, .int .i64 m1] 29).on hbd; obtain ⟨e0, e1, e2, e3⟩ := hN.cells4; have hQd := ((hQB.on hbp).alloc (.cells #[.pointer p1, .int .i64 n1, .pointer q1, .int .i64 m1] 29)).on hbd; obtain ⟨c0, c1, c2, c3⟩ := hQd.cells4; have cf := hQd.free))
          have hb9 : Below w.heap.size w wd := ((hb.trans (hbp.mono hb.size)).alloc (by have := hb.size; have := hbp.size; omega) _).trans (hbd.mono (by have := hb.size; have := hbp.size; simp; omega))
          have hud : que.IsQ wd wd.heap.size (que.qv p1 n1 q1 m1) t := (hu.on ((Below.refl _ _).alloc (Nat.le_refl _) _)).on hbd
          clear e0 e1 e2 e3 c0 c1 c2 c3 cf hxp hx
          go_roundw
          case rel =>
            refine ⟨k + 1, by go_num, by omega, (((hb9.setCell (by simpa using hws) _).setCell (by simpa using hws) _).setCell (by simpa using hws) _).setCell (by simpa using hws) _, ?_⟩
            rw [← ht.out]
            exact ⟨_, _, _, _, hQd.set4 _ _ _ _, (que.IsQ.set4 hud hQd _ _ _ _).mono (by simp)⟩
          case measure => simp [intOf]; omega
        · obtain rfl : k = l0.length := by omega
          rw [List.drop_length] at hg
          obtain ⟨p, n, q, m, hQB, hQ⟩ := hg
          obtain ⟨c0, c1, c2, c3⟩ := hQB.cells4
          go_wp2_with (go_at_call 8; refine (que.pop_nil hQ).mono ?_; rintro e wp ⟨rfl, hbp⟩)
          go_ret
          exact ⟨rfl, (hb.trans (hbp.mono hb.size)).alloc (by have := hb.size; have := hbp.size; omega) _⟩

end Go.Proofs.Ytgfgcmncnnjepaa.queueFirst
