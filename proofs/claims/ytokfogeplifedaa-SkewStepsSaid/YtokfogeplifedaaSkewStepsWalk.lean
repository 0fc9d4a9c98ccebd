/- The walk of SkewSteps. -/
import Derived.Test.YtokfogeplifedaaSkOps
import Derived.Test.YtokfogeplifedaaInts
namespace Go.Proofs.Ytokfogeplifedaa.skewSteps
open Go Go.RowKit sk
set_option linter.unusedVariables false

theorem walk_bad (v0 : Value) (l0 : List Int) (w : World) (i0 : hp.IsInts w w.heap.size v0 l0) (hl : ¬ Ok l0) :
    Calls Try.prog 4 #[v0] w fun e w' => e = .returned (.bool true) ∧ Below w.heap.size w w' := by
  have K := Below.refl w.heap.size w
  go_enter Try.func4, Try.ntmps4
  go_wp2_with (first
      | (go_at_call 5; refine (skewed_any _).mono ?_; rintro e wa ⟨rfl, hb⟩; replace K := K.trans (hb.mono K.size); clear hb)
      | (go_at_call 9; refine (inc_bad (i0.on K) hl).mono ?_; rintro e wb ⟨rfl, hb⟩; replace K := K.trans (hb.mono K.size); clear hb))
  go_ret
  exact ⟨rfl, K⟩

theorem walk_out (v0 : Value) (l0 : List Int) (w : World) (i0 : hp.IsInts w w.heap.size v0 l0) (hl : Ok l0) (hs : 1099511627776 < sum l0 + 1) :
    Calls Try.prog 4 #[v0] w fun e w' => e = .returned (.bool true) ∧ Below w.heap.size w w' := by
  have K := Below.refl w.heap.size w
  go_enter Try.func4, Try.ntmps4
  go_wp2_with (first
      | (go_at_call 5; refine (skewed_any _).mono ?_; rintro e wa ⟨rfl, hb⟩; replace K := K.trans (hb.mono K.size); clear hb)
      | (go_at_call 9; refine (inc_out (i0.on K) hl hs).mono ?_; rintro e wb ⟨rfl, hb⟩; replace K := K.trans (hb.mono K.size); clear hb))
  go_ret
  exact ⟨rfl, K⟩

theorem parts {l t : List Int} (h : (∃ d r, l = d :: d :: r ∧ t = (2 * d + 1) :: r) ∨ t = 1 :: l) : ∃ x r j, t = x :: r ∧ l.drop j = r ∧ l.length = r.length + j ∧ j ≤ 2 := by
  rcases h with ⟨d, r, rfl, rfl⟩ | rfl
  · exact ⟨_, r, 2, rfl, rfl, rfl, Nat.le_refl _⟩
  · exact ⟨_, l, 0, rfl, rfl, rfl, by omega⟩

attribute [-go_sem] sliced in
set_option maxHeartbeats 8000000 in
theorem walk_ok (v0 : Value) (l0 : List Int) (w : World) (i0 : hp.IsInts w w.heap.size v0 l0) (hl : Ok l0) (hs : sum l0 + 1 ≤ 1099511627776) :
    Calls Try.prog 4 #[v0] w fun e w' => e = .returned (.bool true) ∧ Below w.heap.size w w' := by
  have K := Below.refl w.heap.size w
  have s0 := hl.nonneg
  obtain ⟨s, hss⟩ : ∃ s, sum l0 = s := ⟨_, rfl⟩
  have hinc : ∀ W, Below w.heap.size w W → _ := fun W hb => inc_any (i0.on hb) hl hs
  have hval : ∀ W, Below w.heap.size w W → _ := fun W hb => value_ok (i0.on hb) hl
  have i0' := i0
  obtain ⟨a0, c0, rfl, -, -, -, -⟩ := i0'
  replace hl := Lib.hid hl
  rw [hss] at s0 hs
  simp only [hss] at hinc hval
  replace hss := Lib.hid hss
  go_enter Try.func4, Try.ntmps4
  go_wp2_with (first
      | (go_at_call 5; refine (skewed_any _).mono ?_; rintro e wa ⟨rfl, hb⟩; replace K := K.trans (hb.mono K.size); clear hb)
      | (go_at_call 9; refine (hinc _ K).mono ?_; rintro e wb ⟨⟨u, t, rfl, hu, ht, hts⟩, hb⟩; replace K := K.trans (hb.mono K.size); clear hb; have hu' := hu; obtain ⟨a1, c1, rfl, -⟩ := hu'; have hlen := hl.out.inc ht (by rw [hts, hss.out]) (by omega); replace hlen := Lib.hid hlen; replace ht := Lib.hid ht; replace hts := Lib.hid hts)
      | (go_at_call 7; with_reducible refine (hval _ K).mono ?_; rintro e wc ⟨rfl, hb⟩; replace K := K.trans (hb.mono K.size); replace hu := hu.on hb; clear hb)
      | (go_at_call 7; refine (value_ok hu ht.out).mono ?_; rw [hts.out]; rintro e wc ⟨rfl, hb⟩; replace K := K.trans (hb.mono K.size); replace hu := hu.on hb; clear hb)
      | (go_at_call 10; refine (dec_any hu ht.out (by rw [hts.out]; omega) (by rw [hts.out]; omega)).mono ?_; rintro e wd ⟨⟨u2, t2, rfl, hu2, ht2, hts2⟩, hb⟩; replace K := K.trans (hb.mono K.size); replace hu := hu.on hb; clear hb; obtain rfl : t2 = l0 := ht2.one _ hl.out (by rw [hts2, hts.out, hss.out]; omega))
      | (go_at_call 8; refine (same.ints_eq rfl hu2 (i0.on K)).mono ?_; rintro e wc ⟨rfl, hb⟩; replace K := K.trans (hb.mono K.size); replace hu := hu.on hb; clear hb))
  have hlt := hu.len
  have hl0 := hl.out.length
  obtain ⟨x, r, j, rfl, hr, hj, hj2⟩ := parts hlen.out
  obtain ⟨L, hL⟩ : ∃ L, t2.length = L := ⟨_, rfl⟩
  have k1 := hu.from (i := 1) (by simp)
  have k2 := (i0.on K).from (i := j) (by omega)
  rw [hr] at k2
  simp only [List.drop_succ_cons, List.drop_zero] at k1
  obtain ⟨n, hn⟩ : ∃ n, r.length = n := ⟨_, rfl⟩
  simp only [List.length_cons, hj, hn] at hlt hl0 k1 k2
  have hmin : min (wrap64 ((x :: r).length - 1)) (t2.length : Int) = (n : Int) := by
    rw [List.length_cons, hj, hn]
    have : wrap64 ((n + 1 : Nat) - 1 : Int) = n := by
      rw [show ((n + 1 : Nat) - 1 : Int) = n by omega]
      unfold wrap64; omega
    rw [this]
    omega
  rw [hmin]
  simp only [List.length_cons, hj, hn]
  clear hmin hL hlen i0 hinc hval hu hu2 ht2
  apply rel.region (C := fun w' => Below wc.heap.size wc w') (X := fun w w' => Below w.heap.size w w') (by kernel_rfl) (by kernel_rfl) (by kernel_rfl) ((Below.refl _ _).drew)
  (apply rel.walk_val; (focus (intro wq hq hf; go_wp2; refine ⟨hq, Below.refl _ _, ?_, rfl⟩; (show rel.slot _ _ = _; simp only [rel.slot_lit, List.getD_cons_succ, List.getD_cons_zero]; (first | done | exact rfl)))); (simp only [rel.put_lit, List.set_cons_succ, List.set_cons_zero]))
  (apply rel.walk_val; (focus (intro wq hq hf; go_wp2; refine ⟨hq, Below.refl _ _, ?_, rfl⟩; (show rel.slot _ _ = _; simp only [rel.slot_lit, List.getD_cons_succ, List.getD_cons_zero]; (first | done | exact rfl)))); (simp only [rel.put_lit, List.set_cons_succ, List.set_cons_zero]))
  (apply rel.walk_val; (focus (intro wq hq hf; go_wp2; refine ⟨hq, Below.refl _ _, ?_, rfl⟩; (show rel.slot _ _ = _; simp only [rel.slot_lit, List.getD_cons_succ, List.getD_cons_zero]; (first | done | exact rfl)))); (simp only [rel.put_lit, List.set_cons_succ, List.set_cons_zero]))
  (apply rel.walk_val; (focus (intro wq hq hf; go_wp2; refine ⟨hq, Below.refl _ _, ?_, rfl⟩; (show rel.slot _ _ = _; simp only [rel.slot_lit, List.getD_cons_succ, List.getD_cons_zero]; (first | done | exact rfl)))); (simp only [rel.put_lit, List.set_cons_succ, List.set_cons_zero]))
  (apply rel.walk_val (v := .int .i64 1); (focus (intro wq hq hf; go_wp2; refine ⟨hq, Below.refl _ _, ?_, rfl⟩; show rel.slot _ _ = _; simp only [rel.slot_lit, List.getD_cons_succ, List.getD_cons_zero]; go_num)); (simp only [rel.put_lit, List.set_cons_succ, List.set_cons_zero]))
  (apply rel.walk_val (v := Go.sliced a1 1 (n + 1) c1 1); (focus (intro wq hq hf; go_wp2; refine ⟨hq, Below.refl _ _, ?_, rfl⟩; show rel.slot _ _ = _; simp only [rel.slot_lit, List.getD_cons_succ, List.getD_cons_zero])); (simp only [rel.put_lit, List.set_cons_succ, List.set_cons_zero]))
  (apply rel.walk_val; (focus (intro wq hq hf; go_wp2; refine ⟨hq, Below.refl _ _, ?_, rfl⟩; (show rel.slot _ _ = _; simp only [rel.slot_lit, List.getD_cons_succ, List.getD_cons_zero]; (first | done | exact rfl)))); (simp only [rel.put_lit, List.set_cons_succ, List.set_cons_zero]))
  (apply rel.walk_val; (focus (intro wq hq hf; go_wp2; refine ⟨hq, Below.refl _ _, ?_, rfl⟩; (show rel.slot _ _ = _; simp only [rel.slot_lit, List.getD_cons_succ, List.getD_cons_zero]; (first | done | exact rfl)))); (simp only [rel.put_lit, List.set_cons_succ, List.set_cons_zero]))
  (apply rel.walk_val; (focus (intro wq hq hf; go_wp2; refine ⟨hq, Below.refl _ _, ?_, rfl⟩; (show rel.slot _ _ = _; simp only [rel.slot_lit, List.getD_cons_succ, List.getD_cons_zero]; (first | done | exact rfl)))); (simp only [rel.put_lit, List.set_cons_succ, List.set_cons_zero]))
  (apply rel.walk_val; (focus (intro wq hq hf; go_wp2; refine ⟨hq, Below.refl _ _, ?_, rfl⟩; (show rel.slot _ _ = _; simp only [rel.slot_lit, List.getD_cons_succ, List.getD_cons_zero]; (first | done | exact rfl)))); (simp only [rel.put_lit, List.set_cons_succ, List.set_cons_zero]))
  (apply rel.walk_val (v := .int .i64 j); (focus (intro wq hq hf; go_wp2; refine ⟨hq, Below.refl _ _, ?_, rfl⟩; show rel.slot _ _ = _; simp only [rel.slot_lit, List.getD_cons_succ, List.getD_cons_zero]; go_num)); (simp only [rel.put_lit, List.set_cons_succ, List.set_cons_zero]))
  (apply rel.walk_val (v := Go.sliced a0 j (n + j) c0 1); (focus (intro wq hq hf; go_wp2; refine ⟨hq, Below.refl _ _, ?_, rfl⟩; show rel.slot _ _ = _; simp only [rel.slot_lit, List.getD_cons_succ, List.getD_cons_zero]; try simp)); (simp only [rel.put_lit, List.set_cons_succ, List.set_cons_zero]))
  (apply rel.walk_val; (focus (intro wq hq hf; go_wp2_with (go_at_call 8; refine (same.ints_eq rfl (k1.on hq) (k2.on hq)).mono ?_; rintro e w'' ⟨rfl, hb⟩); refine ⟨hq.trans (hb.mono hq.size), hb, ?_, rfl⟩; (show rel.slot _ _ = _; simp only [rel.slot_lit, List.getD_cons_succ, List.getD_cons_zero]; (first | done | exact rfl)))); (simp only [rel.put_lit, List.set_cons_succ, List.set_cons_zero]))
  (apply rel.walk_val; (focus (intro wq hq hf; go_wp2; refine ⟨hq, Below.refl _ _, ?_, rfl⟩; (show rel.slot _ _ = _; simp only [rel.slot_lit, List.getD_cons_succ, List.getD_cons_zero]; (first | done | exact rfl)))); (simp only [rel.put_lit, List.set_cons_succ, List.set_cons_zero]))
  refine rel.walk_nil ?_
  intro w9 K9 hF
  clear hF
  go_wp2_with fail
  go_ret
  refine ⟨?_, K.trans (K9.mono K.size)⟩
  show Ending.returned (.bool (decide (_ ≤ _))) = _
  simp
  omega

theorem walk (v0 : Value) (l0 : List Int) (w : World) (i0 : hp.IsInts w w.heap.size v0 l0) :
    Calls Try.prog 4 #[v0] w fun e w' => e = .returned (.bool true) ∧ Below w.heap.size w w' := by
  by_cases h : Ok l0
  · by_cases hs : sum l0 + 1 ≤ 1099511627776
    · exact walk_ok v0 l0 w i0 h hs
    · exact walk_out v0 l0 w i0 h (by omega)
  · exact walk_bad v0 l0 w i0 h
end Go.Proofs.Ytokfogeplifedaa.skewSteps
