/- The walk of PairRises. -/
import Derived.Test.YtnfoadhhgonfkaaParWalks
import Derived.Lib.MinMax
namespace Go.Proofs.Ytnfoadhhgonfkaa.pairRises
open Go Go.RowKit Go.Proofs.Ytnfoadhhgonfkaa.par
open Go.Proofs.Ytnfoadhhgonfkaa.bin (srt srt_perm srt_len srt_rises rises_one srt_eq srt_of)
set_option linter.unusedVariables false

theorem first_of {L : List Int} (h : 0 < L.length) : ∃ z tl, srt L = z :: tl ∧ tl.length + 1 = L.length ∧ z ∈ L ∧ ∀ y ∈ tl, z ≤ y := by
  have hl := srt_len L
  have hr := srt_rises L
  rcases hs : srt L with _ | ⟨z, tl⟩
  · rw [hs] at hl; simp at hl; omega
  · rw [hs] at hl hr
    exact ⟨z, tl, rfl, by simpa using hl, (srt_perm L).mem_iff.1 (by rw [hs]; simp), (List.pairwise_cons.1 hr).1⟩

set_option maxHeartbeats 8000000 in
theorem walk (v0 : Value) (l0 : List Int) (a1 : Int) (w : World) (i0 : hp.IsInts w w.heap.size v0 l0) (w1 : (Lit.int .i64 a1).wf = true) (bd0 : l0.length ≤ 17592186043904) :
    Calls Try.prog 5 #[v0, .int .i64 a1] w fun e w' => e = .returned (.bool true) ∧ Below w.heap.size w w' := by
  have i0' := i0
  obtain ⟨b0, c0, rfl, -⟩ := i0'
  have K := Below.refl w.heap.size w
  have hlo : ∀ y ∈ l0, (-9223372036854775808 : Int) ≤ y := fun y hy => by
    have := i0.wf y hy
    simp [Lit.wf, IntKind.min, IntKind.max, IntKind.signed, IntKind.bits] at this
    omega
  obtain ⟨n, hn⟩ : ∃ n, l0.length = n := ⟨_, rfl⟩
  have H1 : ∀ W, Below w.heap.size w W → Calls Try.prog 8 #[.slice b0 n c0] W fun e w' => (∃ q, e = .returned (rv q l0.length) ∧ IsHeap w' w'.heap.size (rv q l0.length) l0) ∧ Below W.heap.size W w' := fun W hW => by
    have := of_any (i0.on hW) (by omega)
    rwa [hn] at this ⊢
  rw [hn] at bd0 ⊢
  replace hn := Lib.hid hn
  clear i0
  go_enter Try.func5, Try.ntmps5
  go_wp2_with (first
    | (go_at_call 7; with_reducible refine (paired_any _).mono ?_; rintro e wa ⟨rfl, hb⟩; replace K := st K hb; clear hb)
    | (go_at_call 8; with_reducible refine (H1 _ K).mono ?_; clear H1; rintro e wb ⟨⟨q1, rfl, hL⟩, hb⟩; have hwb := (st K hb).size; have hA := hp.Blk.new wb [.pointer q1, .int .i64 l0.length] tyH; replace K := st (st K hb) ((Below.refl _ _).alloc (Nat.le_refl _) (.cells #[.pointer q1, .int .i64 l0.length] tyH)); replace hL := hL.on ((Below.refl _ _).alloc (Nat.le_refl _) (.cells #[.pointer q1, .int .i64 l0.length] tyH)); clear hb))
  go_loopw [7, 8] (fun va i wr => ∃ k : Nat, ∃ q L lo, va = .int .i64 lo ∧ i = .int .i64 k ∧ k ≤ n ∧ L.length + k = n ∧ (∀ y ∈ L, lo ≤ y) ∧ Below w.heap.size w wr ∧ hp.Blk wr wb.heap.size tyH [.pointer q, .int .i64 L.length] ∧ IsHeap wr wr.heap.size (rv q L.length) L) (fun _ i _ => n - (intOf i).toNat)
  case atStart => exact ⟨0, q1, l0, _, rfl, rfl, Nat.zero_le _, by have := hn.out; omega, hlo, K, hA, hL⟩
  case round =>
    clear K hA hL hlo
    obtain ⟨k, q, L, lo, rfl, rfl, hk, hln, hlo, hb, hA, hL⟩ := hrel
    obtain ⟨d0, d1⟩ := hA.cells2
    by_cases hlt : k < n
    · obtain ⟨z, tl, hs, hl, hz, hzt⟩ := first_of (L := L) (by omega)
      have hzl : lo ≤ z := hlo z hz
      have hzl2 : ¬ z < lo := by omega
      obtain ⟨z2, tl2, hs2, hl2, hz2, hzt2⟩ := first_of (L := a1 :: tl) (by simp)
      have hpop := pop_cons hL hs (by omega)
      have hlen := fun W u (hu : IsHeap W W.heap.size u tl) => len_any u tl W hu
      have hpush := fun W u (hu : IsHeap W W.heap.size u tl) => push_any (x := a1) hu w1 (by omega)
      have hmin := fun W u (hu : IsHeap W W.heap.size u (a1 :: tl)) => min_cons hu hs2
      have hzx : ¬ a1 < z2 := by
        have h1 := srt_rises (a1 :: tl)
        rw [hs2] at h1
        have h2 : a1 ∈ z2 :: tl2 := by rw [← hs2]; exact (srt_perm _).mem_iff.2 (by simp)
        rcases List.mem_cons.1 h2 with h2 | h2
        · omega
        · have := (List.pairwise_cons.1 h1).1 _ h2; omega
      obtain ⟨X, hX⟩ : ∃ X, a1 :: tl = X := ⟨_, rfl⟩
      have hXl : tl.length + 1 = X.length := by rw [← hX]; simp
      rw [hX] at hpush hmin
      rw [hXl] at hpush
      have hnk : (n : Int) - (k : Int) - 1 = (tl.length : Int) := by omega
      have hnk2 : (k : Int) < (n : Int) := by omega
      clear hlo hz hzl hs hs2 hl2 hz2 hzt2 hX hXl hL
      go_wp2_with (first
        | (go_at_call 17; with_reducible refine hpop.mono ?_; clear hpop; rintro e wc ⟨⟨q2, rfl, hT⟩, hb2⟩; replace hA := hA.on hb2; have hR := hp.Blk.new wc [.pointer q2, .int .i64 tl.length] tyH; replace hb := st (st hb hb2) ((Below.refl _ _).alloc (Nat.le_refl _) (.cells #[.pointer q2, .int .i64 tl.length] tyH)); replace hA := hA.on ((Below.refl _ _).alloc (Nat.le_refl _) (.cells #[.pointer q2, .int .i64 tl.length] tyH)); replace hT := hT.on ((Below.refl _ _).alloc (Nat.le_refl _) (.cells #[.pointer q2, .int .i64 tl.length] tyH)); clear d0 d1 hb2)
        | (go_at_call 15; with_reducible refine (hlen _ _ hT).mono ?_; clear hlen; rintro e wd ⟨rfl, hb2⟩; replace hb := st hb hb2; replace hA := hA.on hb2; replace hT := hT.on hb2; replace hR := hR.on hb2; obtain ⟨d0, d1⟩ := hR.cells2; clear hb2)
        | (go_at_call 9; with_reducible refine (hpush _ _ hT).mono ?_; clear hpush; rintro e we ⟨⟨q3, rfl, hP⟩, hb2⟩; replace hb := st hb hb2; replace hA := hA.on hb2; replace hT := hT.on hb2; replace hR := hR.on hb2; clear hb2 d0 d1)
        | (go_at_call 16; with_reducible refine (hmin _ _ hP).mono ?_; clear hmin hP; rintro e wf ⟨rfl, hb2⟩; replace hb := st hb hb2; replace hA := hA.on hb2; replace hT := hT.on hb2; replace hR := hR.on hb2; clear hb2; obtain ⟨d0, d1⟩ := hR.cells2; obtain ⟨a0, a1⟩ := hA.cells2; have f0 := hA.free 0; have f1 := hA.free 1))
      go_roundw
      case rel =>
        obtain ⟨W9, hW9, hS, hQ, hB, -⟩ := par.stored (k := tl.length) rfl hA hwb hb hT
        rw [hW9]
        exact ⟨k + 1, q2, tl, z, rfl, by go_num, by omega, by omega, hzt, hB, hS, hQ⟩
      case measure => simp [intOf]; omega
    · obtain rfl : k = n := by omega
      have hLz : L.length = 0 := by omega
      have hlen : Calls Try.prog 15 #[rv q L.length] wr fun e w' => e = .returned (.int .i64 0) ∧ Below wr.heap.size wr w' := by
        have := len_any _ L wr hL
        rwa [show (.int .i64 (L.length : Int) : Value) = .int .i64 0 by rw [hLz]; rfl] at this
      clear hlt hk hln hlo hL hLz
      obtain ⟨N, hN⟩ : ∃ N : Int, (L.length : Int) = N := ⟨_, rfl⟩
      rw [show rv q L.length = .agg #[.pointer q, .int .i64 N] by rw [← hN]] at hlen
      rw [hN] at d1
      clear hN hA
      go_wp2_with (go_at_call 15; with_reducible refine hlen.mono ?_; clear hlen; rintro e w5 ⟨rfl, hb5⟩)
      go_ret
      exact ⟨rfl, st hb hb5⟩
end Go.Proofs.Ytnfoadhhgonfkaa.pairRises
