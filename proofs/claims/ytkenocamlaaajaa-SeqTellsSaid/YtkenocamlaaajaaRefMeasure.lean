/- The reference's measures. -/
import Derived.Test.YtkenocamlaaajaaMonoJoin
import Derived.Test.YtkenocamlaaajaaRefMod
namespace Go.Proofs.Ytkenocamlaaajaa.ref
open Go.RowKit mono

theorem hash_next (l : List Int) (x : Int) : hashOf (l ++ [x]) = (131 * hashOf l + x % 2147483647 + 1) % 2147483647 := by
  simp only [hashOf, List.foldl_append, List.foldl_cons, List.foldl_nil]
  omega

theorem pw_step (h : Int) (k : Nat) : (131 * (h * pw k % 2147483647)) % 2147483647 = h * pw (k + 1) % 2147483647 := by
  rw [mul_mod_right, pw_succ, mul_mod_right]
  congr 1
  rw [← Int.mul_assoc, ← Int.mul_assoc, Int.mul_comm 131 h]

set_option maxHeartbeats 8000000 in
theorem measureOf_any (v : Value) (l : List Int) (w : World) (hv : hp.IsInts w w.heap.size v l) :
    Calls Try.prog 20 #[v] w fun e w' => e = .returned (mvOf l.length l) ∧ Below w.heap.size w w' := by
  obtain ⟨a, cap, rfl, hnc, hm, hwf, hc⟩ := hv
  clear hwf hnc
  go_enter Try.func20, Try.ntmps20
  go_wp2_with fail
  go_loopw [4] (fun i wr => ∃ k : Nat, k ≤ l.length ∧ i = .int .i64 k ∧ Below w.heap.size w wr ∧ hp.Blk wr w.heap.size 42 [.int .i64 0, .int .i64 0, .int .i64 0, .int .i64 0, .int .i64 0] ∧ hp.Blk wr (w.heap.size + 1) 42 [.int .i64 l.length, .int .i64 (sumOf (l.take k)), .int .i64 (lstOf (l.take k)), .int .i64 (mstOf (l.take k)), .int .i64 (hashOf (l.take k))]) (fun i _ => l.length - (intOf i).toNat)
  case atStart => exact ⟨0, by omega, rfl, ((Below.refl _ _).alloc (Nat.le_refl _) _).alloc (by simp) _, (hp.Blk.new w [.int .i64 0, .int .i64 0, .int .i64 0, .int .i64 0, .int .i64 0] _).alloc _, hp.Blk.new1 _ _ _ _⟩
  case round =>
    obtain ⟨k, hk, rfl, hb2, hka, hkb⟩ := hrel
    by_cases hlt : k < l.length
    · obtain ⟨b, off, rfl, hb, hcell⟩ := hc (by omega)
      have hcx : wr.cell? ⟨b, off + k, none⟩ = some (.int .i64 (l.getD k 0)) := (hb2.cell (by simp; omega)).trans (hcell k hlt)
      have s1 := take_snoc l k hlt
      clear hc hcell
      obtain ⟨x, hx⟩ : ∃ x, x = l.getD k 0 := ⟨_, rfl⟩
      rw [← hx] at hcx s1
      clear hx
      obtain ⟨c0, c1, c2, c3, c4⟩ := hkb.cells5
      have cf := hkb.free
      have hh := hash_bd (l.take k)
      have hbw : b < w.heap.size := hb
      have e1 : (l.take k) = (l.take k) := rfl
      generalize l.take k = t at *
      by_cases hlo : x < lstOf t <;> by_cases hhi : mstOf t < x
      all_goals
        go_wp2_with fail
        (refine reg.region_tail_drew 8 (by kernel_rfl) (by kernel_rfl) ?_; simp only [List.take_succ_cons, List.take_zero, List.drop_succ_cons, List.drop_zero]; (repeat (go_big_quiet_step ((fail)))); refine wpQuiet_nil ?_; intro _ hw'; obtain ⟨nq, hw''⟩ := hw'; subst hw'')
        go_wp2_with fail
        go_quiet ((fail))
        go_wp2_with fail
        (first | (refine reg.region_quiet_again (by kernel_rfl) (by kernel_rfl) ?_; (repeat (go_big_quiet_step ((fail)))); refine wpQuiet_nil ?_; intro _ hw'; obtain ⟨nq, hw''⟩ := hw'; subst hw'') | go_quiet ((fail)))
        go_wp2_with fail
        (first | (refine reg.region_tail_again 12 (by kernel_rfl) (by kernel_rfl) ?_; simp only [List.take_succ_cons, List.take_zero, List.drop_succ_cons, List.drop_zero]; (repeat (go_big_quiet_step ((go_at_call 43; exact Calls.quiet_of_same ((mod_any _ _).mono fun e w' h => ⟨h.1, h.2.symm⟩))))); refine wpQuiet_nil ?_; intro _ hw'; obtain ⟨nq, hw''⟩ := hw'; subst hw'') | (refine reg.region_tail_drew 12 (by kernel_rfl) (by kernel_rfl) ?_; simp only [List.take_succ_cons, List.take_zero, List.drop_succ_cons, List.drop_zero]; (repeat (go_big_quiet_step ((go_at_call 43; exact Calls.quiet_of_same ((mod_any _ _).mono fun e w' h => ⟨h.1, h.2.symm⟩))))); refine wpQuiet_nil ?_; intro _ hw'; obtain ⟨nq, hw''⟩ := hw'; subst hw''))
        go_wp2
        go_roundw
        case rel =>
          refine ⟨k + 1, by omega, by go_num, ?_, ?_, ?_⟩
          · ((repeat' (first | with_reducible exact Below.refl _ _ | with_reducible apply Below.setCell | with_reducible apply below_drewN | with_reducible apply Below.drew | with_reducible apply Below.alloc | with_reducible refine Below.trans ?_ (Below.mono (by assumption) ?_))) <;> (first | (simp; done) | (simp; omega) | omega))
          · (repeat (first | with_reducible exact hka | with_reducible apply hp.Blk.drewN | (with_reducible refine hp.Blk.other ?_ (by simp) _)))
          · (apply hp.Blk.cast; focus (repeat (first | with_reducible exact hkb | with_reducible apply hp.Blk.set | with_reducible apply hp.Blk.drewN | with_reducible apply hp.Blk.drew)))
            rw [s1, sum_snoc, least_snoc, most_snoc, hash_next]
            simp
            omega
        case measure => simp [intOf]; omega
    · obtain rfl : k = l.length := by omega
      rw [List.take_length] at hkb
      obtain ⟨c0, c1, c2, c3, c4⟩ := hkb.cells5
      obtain ⟨e0, e1, e2, e3, e4⟩ := hka.cells5
      have ef := hka.free
      obtain ⟨f0, f1, f2, f3, f4⟩ := (hka.set5 (.int .i64 l.length) (.int .i64 (sumOf l)) (.int .i64 (lstOf l)) (.int .i64 (mstOf l)) (.int .i64 (hashOf l))).cells5
      go_wp2
      refine bodyPost_ret (v := mvOf l.length l) (by simp [results, Try.results20, go_sem, f0, f1, f2, f3, f4]) rfl ⟨rfl, ?_⟩
      ((repeat' (first | with_reducible exact Below.refl _ _ | with_reducible apply Below.setCell | with_reducible apply below_drewN | with_reducible apply Below.drew | with_reducible apply Below.alloc)) <;> (first | (simp; done) | (simp; omega) | omega))
end Go.Proofs.Ytkenocamlaaajaa.ref
