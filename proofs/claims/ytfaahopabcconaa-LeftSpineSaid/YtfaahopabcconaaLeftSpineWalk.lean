/- The walk of LeftSpine. -/
import Derived.Test.YtfaahopabcconaaLefWalks
import Derived.Lib.MinMax
namespace Go.Proofs.Ytfaahopabcconaa.leftSpine
open Go Go.RowKit Go.Proofs.Ytfaahopabcconaa.lef
open Go.Proofs.Ytfaahopabcconaa.bin (srt srt_perm srt_len srt_rises rises_one srt_eq srt_of)
set_option linter.unusedVariables false

theorem first_of {L : List Int} (h : 0 < L.length) : ∃ z tl, srt L = z :: tl ∧ tl.length + 1 = L.length := by
  have hl := srt_len L
  rcases hs : srt L with _ | ⟨z, tl⟩
  · rw [hs] at hl; simp at hl; omega
  · rw [hs] at hl; exact ⟨z, tl, rfl, by simpa using hl⟩

theorem halves {s n : Nat} (h : 2 ^ s ≤ n + 1) : ∃ M : Nat → Nat, M 0 = n + 1 ∧ (∀ j, M j / 2 = M (j + 1)) ∧ (∀ j, j ≤ s → 0 < M j) ∧ ∀ j, M j ≤ n + 1 := by
  refine ⟨fun j => (n + 1) / 2 ^ j, by simp, fun j => ?_, fun j hj => ?_, fun j => Nat.div_le_self _ _⟩
  · show (n + 1) / 2 ^ j / 2 = (n + 1) / 2 ^ (j + 1)
    rw [Nat.div_div_eq_div_mul, Nat.pow_succ]
  · refine Nat.div_pos ?_ (Nat.pow_pos (by omega))
    exact Nat.le_trans (Nat.pow_le_pow_right (by omega) hj) h
theorem both_pos {s n : Nat} (h : s = 0 ↔ n = 0) : (decide (0 < s) == decide (0 < n)) = true := by
  by_cases hs : s = 0
  · have := h.1 hs
    subst hs; subst this; rfl
  · have : n ≠ 0 := fun e => hs (h.2 e)
    have h1 : 0 < s := by omega
    have h2 : 0 < n := by omega
    simp [h1, h2]
theorem two_small {s n : Nat} (h : 2 ^ s ≤ n + 1) (hn : n ≤ 35184372088832) : s < 64 :=
  (Nat.pow_lt_pow_iff_right (a := 2) (by omega)).1 (Nat.lt_of_le_of_lt h (by simp; omega))

set_option maxHeartbeats 8000000 in
theorem walk (v0 : Value) (l0 : List Int) (v1 : Value) (l1 : List Int) (a2 : Int) (w : World) (i0 : hp.IsInts w w.heap.size v0 l0) (i1 : hp.IsInts w w.heap.size v1 l1) (w2 : (Lit.int .i64 a2).wf = true) (bd0 : l0.length ≤ 17592186043904) (bd1 : l1.length ≤ 17592186043904) :
    Calls Try.prog 4 #[v0, v1, .int .i64 a2] w fun e w' => e = .returned (.bool true) ∧ Below w.heap.size w w' := by
  have i0' := i0
  obtain ⟨b0, c0, rfl, -⟩ := i0'
  have i1' := i1
  obtain ⟨b1, c1, rfl, -⟩ := i1'
  have K := Below.refl w.heap.size w
  obtain ⟨R, hR⟩ : ∃ R, l0 ++ l1 = R := ⟨_, rfl⟩
  have hRl : R.length = l0.length + l1.length := by rw [← hR, List.length_append]
  have HJ : ∀ (W : World) (u v : Value), IsHeap W W.heap.size u l0 → IsHeap W W.heap.size v l1 → Calls Try.prog 10 #[u, v] W fun e w' => (∃ q, e = .returned (rv q R.length) ∧ IsHeap w' w'.heap.size (rv q R.length) R) ∧ Below W.heap.size W w' := fun W u v hu hv => by
    rw [← hR]
    exact heap_join hu hv (by omega)
  clear hR
  replace hRl := Lib.hid hRl
  go_enter Try.func4, Try.ntmps4
  go_wp2_with (first
    | (go_at_call 7; with_reducible refine (lefted_any _).mono ?_; rintro e wa ⟨rfl, hb⟩; replace K := st K hb; clear hb)
    | (go_at_call 8; with_reducible refine (of_any (i0.on K) (by omega)).mono ?_; rintro e wb ⟨⟨q1, rfl, hL⟩, hb⟩; replace K := st K hb; clear hb)
    | (go_at_call 8; with_reducible refine (of_any (i1.on K) (by omega)).mono ?_; rintro e wc ⟨⟨q2, rfl, hM⟩, hb⟩; replace hL := hL.on hb; replace K := st K hb; clear hb)
    | (go_at_call 10; with_reducible refine (HJ _ _ _ hL hM).mono ?_; clear hL hM HJ; rintro e wd ⟨⟨q, rfl, hL⟩, hb⟩; have hwd := (st K hb).size; have hA := hp.Blk.new wd [.pointer q, .int .i64 R.length] tyH; replace K := st (st K hb) ((Below.refl _ _).alloc (Nat.le_refl _) (.cells #[.pointer q, .int .i64 R.length] tyH)); replace hL := hL.on ((Below.refl _ _).alloc (Nat.le_refl _) (.cells #[.pointer q, .int .i64 R.length] tyH)); clear hb))
  clear i0 i1
  go_loopw [9] (fun i wr => ∃ k : Nat, ∃ q L, i = .int .i64 k ∧ k ≤ l0.length ∧ (k = 0 ∨ (k : Int) ≤ a2) ∧ L.length + k = l0.length + l1.length ∧ Below w.heap.size w wr ∧ hp.Blk wr wd.heap.size tyH [.pointer q, .int .i64 L.length] ∧ IsHeap wr wr.heap.size (rv q L.length) L) (fun i _ => l0.length - (intOf i).toNat)
  case atStart => exact ⟨0, q, _, rfl, Nat.zero_le _, .inl rfl, by have := hRl.out; omega, K, hA, hL⟩
  case round =>
    clear K hA hL
    obtain ⟨k, q, L, rfl, hk, hka, hln, hb, hA, hL⟩ := hrel
    obtain ⟨d0, d1⟩ := hA.cells2
    by_cases hlt : k < l0.length ∧ (k : Int) < a2
    · obtain ⟨h1, h2⟩ := hlt
      obtain ⟨z, tl, hs, hl⟩ := first_of (L := L) (by omega)
      have hpop := pop_cons hL hs (by omega)
      replace hs := Lib.hid hs
      clear hL
      go_wp2_with (go_at_call 17; with_reducible refine hpop.mono ?_; clear hpop; rintro e we ⟨⟨q2, rfl, hL2⟩, hb2⟩; have hA2 := hA.on hb2; have hlt2 := hA2.lt; obtain ⟨d2, d3⟩ := hA2.cells2; have f2 := hA2.free 0; have f3 := hA2.free 1; clear d0 d1)
      go_roundw
      case rel =>
        obtain ⟨W9, hW9, hS, hQ, hB, -⟩ := lef.stored (k := tl.length) rfl hA2 hwd (st hb hb2) hL2
        rw [hW9]
        exact ⟨k + 1, q2, tl, by go_num, by omega, .inr (by omega), by omega, st hB ((Below.refl _ _).alloc (Nat.le_refl _) (.cells #[.pointer q2, .int .i64 tl.length] tyH)), hS.alloc _, hQ.on ((Below.refl _ _).alloc (Nat.le_refl _) (.cells #[.pointer q2, .int .i64 tl.length] tyH))⟩
      case measure => simp [intOf]; omega
    · have hLb : L.length ≤ 35184372088832 := by omega
      by_cases h2 : (k : Int) < a2
      · obtain rfl : k = l0.length := by omega
        clear hlt hk hka hln
        go_wp2_with (first
          | (go_at_call 15; with_reducible refine (len_any _ _ _ hL).mono ?_; rintro e w5 ⟨rfl, hb5⟩; replace hL := hL.on hb5; replace hA := hA.on hb5; clear d0 d1; obtain ⟨d0, d1⟩ := hA.cells2)
          | (go_at_call 18; with_reducible refine (spine_any _ _ _ hL).mono ?_; rintro e w6 ⟨⟨s, rfl, hs1, hs2⟩, hb6⟩; replace hL := hL.on hb6; replace hA := hA.on hb6; clear d0 d1; obtain ⟨d0, d1⟩ := hA.cells2; replace hs1 := Lib.hid hs1; replace hs2 := Lib.hid hs2))
        obtain ⟨M, hM0, hM1, hM2, hM3⟩ := halves hs1.out
        have hlast : Hid (∀ W, Below w6.heap.size w6 W → Below w.heap.size w W) := Lib.hid fun W h => st hb (st (st hb5 hb6) h)
        have hs62 : s < 64 := two_small hs1.out hLb
        clear hb5 hb6 hb hs1
        go_loopw [13, 15] (fun n i W => ∃ j : Nat, n = .int .i64 (M j) ∧ i = .int .i64 j ∧ j ≤ s ∧ Hid (W = w6)) (fun _ i _ => s - (intOf i).toNat)
        case atStart => exact ⟨0, by rw [hM0]; rfl, rfl, Nat.zero_le _, rfl⟩
        case round =>
          obtain ⟨j, rfl, rfl, hj, hW⟩ := hrel
          obtain rfl := hW.out
          by_cases hjs : j < s
          · have m1 := hM1 j
            have m2 := hM2 (j + 1) hjs
            have m3 := hM3 j
            clear hM0 hM1 hM2 hM3 d0 d1
            obtain ⟨m, hm⟩ : ∃ m, M j = m := ⟨_, rfl⟩
            obtain ⟨m', hm'⟩ : ∃ m, M (j + 1) = m := ⟨_, rfl⟩
            rw [hm, hm'] at m1
            rw [hm'] at m2
            rw [hm] at m3 ⊢
            replace hm' := Lib.hid hm'
            have m6 : m' ≤ 35184372088833 := by omega
            have m4 : ((m : Int)).tdiv 2 = (m' : Int) := by rw [Int.tdiv_eq_ediv_of_nonneg (by omega)]; omega
            have m5 : ((m' : Int) == 0) = false := beq_false_of_ne (by omega)
            clear hm m1
            go_wp2_with fail
            go_roundw
            case rel => exact ⟨j + 1, by rw [hm'.out], by go_num, by omega, Lib.hid (by first | rfl | trivial)⟩
            case measure => simp [intOf]; omega
          · obtain rfl : j = s := by omega
            clear hM0 hM1 hM2 hM3 hjs
            go_wp2_with (go_at_call 15; with_reducible refine (len_any _ _ _ hL).mono ?_; rintro e w7 ⟨rfl, hb7⟩)
            go_ret
            exact ⟨same.ret_bool (both_pos hs2.out), hlast.out _ hb7⟩
      · clear hlt hk hka hln
        go_wp2_with (first
          | (go_at_call 15; with_reducible refine (len_any _ _ _ hL).mono ?_; rintro e w5 ⟨rfl, hb5⟩; replace hL := hL.on hb5; replace hA := hA.on hb5; clear d0 d1; obtain ⟨d0, d1⟩ := hA.cells2)
          | (go_at_call 18; with_reducible refine (spine_any _ _ _ hL).mono ?_; rintro e w6 ⟨⟨s, rfl, hs1, hs2⟩, hb6⟩; replace hL := hL.on hb6; replace hA := hA.on hb6; clear d0 d1; obtain ⟨d0, d1⟩ := hA.cells2; replace hs1 := Lib.hid hs1; replace hs2 := Lib.hid hs2))
        obtain ⟨M, hM0, hM1, hM2, hM3⟩ := halves hs1.out
        have hlast : Hid (∀ W, Below w6.heap.size w6 W → Below w.heap.size w W) := Lib.hid fun W h => st hb (st (st hb5 hb6) h)
        have hs62 : s < 64 := two_small hs1.out hLb
        clear hb5 hb6 hb hs1
        go_loopw [13, 15] (fun n i W => ∃ j : Nat, n = .int .i64 (M j) ∧ i = .int .i64 j ∧ j ≤ s ∧ Hid (W = w6)) (fun _ i _ => s - (intOf i).toNat)
        case atStart => exact ⟨0, by rw [hM0]; rfl, rfl, Nat.zero_le _, rfl⟩
        case round =>
          obtain ⟨j, rfl, rfl, hj, hW⟩ := hrel
          obtain rfl := hW.out
          by_cases hjs : j < s
          · have m1 := hM1 j
            have m2 := hM2 (j + 1) hjs
            have m3 := hM3 j
            clear hM0 hM1 hM2 hM3 d0 d1
            obtain ⟨m, hm⟩ : ∃ m, M j = m := ⟨_, rfl⟩
            obtain ⟨m', hm'⟩ : ∃ m, M (j + 1) = m := ⟨_, rfl⟩
            rw [hm, hm'] at m1
            rw [hm'] at m2
            rw [hm] at m3 ⊢
            replace hm' := Lib.hid hm'
            have m6 : m' ≤ 35184372088833 := by omega
            have m4 : ((m : Int)).tdiv 2 = (m' : Int) := by rw [Int.tdiv_eq_ediv_of_nonneg (by omega)]; omega
            have m5 : ((m' : Int) == 0) = false := beq_false_of_ne (by omega)
            clear hm m1
            go_wp2_with fail
            go_roundw
            case rel => exact ⟨j + 1, by rw [hm'.out], by go_num, by omega, Lib.hid (by first | rfl | trivial)⟩
            case measure => simp [intOf]; omega
          · obtain rfl : j = s := by omega
            clear hM0 hM1 hM2 hM3 hjs
            go_wp2_with (go_at_call 15; with_reducible refine (len_any _ _ _ hL).mono ?_; rintro e w7 ⟨rfl, hb7⟩)
            go_ret
            exact ⟨same.ret_bool (both_pos hs2.out), hlast.out _ hb7⟩
end Go.Proofs.Ytfaahopabcconaa.leftSpine
