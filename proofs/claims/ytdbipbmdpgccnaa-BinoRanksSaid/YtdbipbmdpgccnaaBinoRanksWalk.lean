/- The walk of BinoRanks. -/
import Derived.Test.YtdbipbmdpgccnaaBinoWalks
import Derived.Lib.MinMax
namespace Go.Proofs.Ytdbipbmdpgccnaa.binoRanks
open Go Go.RowKit Go.Proofs.Ytdbipbmdpgccnaa.bin
set_option linter.unusedVariables false

theorem first_of {L : List Int} (h : 0 < L.length) : ∃ z tl, srt L = z :: tl ∧ tl.length + 1 = L.length := by
  have hl := srt_len L
  rcases hs : srt L with _ | ⟨z, tl⟩
  · rw [hs] at hl; simp at hl; omega
  · rw [hs] at hl; exact ⟨z, tl, rfl, by simpa using hl⟩

theorem half {nn h kk p M : Nat} (hn : nn = 2 * h) (hs : p + nn * 2 ^ kk = M) : p + h * 2 ^ (kk + 1) = M := by
  rw [← hs, hn, Nat.pow_succ, Nat.mul_comm 2 h, Nat.mul_assoc, Nat.mul_comm (2 ^ kk) 2]
theorem half1 {nn h kk p M : Nat} (hn : nn = 2 * h + 1) (hs : p + nn * 2 ^ kk = M) : p + 2 ^ kk + h * 2 ^ (kk + 1) = M := by
  rw [← hs, hn, Nat.pow_succ, Nat.add_mul, Nat.mul_comm 2 h, Nat.mul_assoc, Nat.mul_comm (2 ^ kk) 2, Nat.one_mul]
  omega
theorem rank_lt {nn kk p M : Nat} (hn : 0 < nn) (hs : p + nn * 2 ^ kk = M) (hM : M < 4611686018427387904) : kk < 62 := by
  refine small (n := M) (N := 62) ?_ (by simpa using hM)
  have h1 : 1 * 2 ^ kk ≤ nn * 2 ^ kk := Nat.mul_le_mul_right _ hn
  omega
theorem its_wf {ks : List Nat} (h : ∀ k ∈ ks, k < 63) : ∀ x ∈ its ks, (Lit.int .i64 x).wf = true := by
  intro x hx
  obtain ⟨k, hk, rfl⟩ := List.mem_map.1 hx
  have := h k hk
  simp only [Lit.wf, IntKind.min, IntKind.max, IntKind.signed, IntKind.bits, Bool.and_eq_true, decide_eq_true_eq]
  simp
  omega

set_option maxHeartbeats 8000000 in
theorem walk (v0 : Value) (l0 : List Int) (v1 : Value) (l1 : List Int) (a2 : Int) (w : World) (i0 : hp.IsInts w w.heap.size v0 l0) (i1 : hp.IsInts w w.heap.size v1 l1) (w2 : (Lit.int .i64 a2).wf = true) (bd0 : l0.length ≤ 17592186043904) (bd1 : l1.length ≤ 17592186043904) :
    Calls Try.prog 4 #[v0, v1, .int .i64 a2] w fun e w' => e = .returned (.bool true) ∧ Below w.heap.size w w' := by
  have i0' := i0
  obtain ⟨b0, c0, rfl, -⟩ := i0'
  have i1' := i1
  obtain ⟨b1, c1, rfl, -⟩ := i1'
  have K := Below.refl w.heap.size w
  go_enter Try.func4, Try.ntmps4
  go_wp2_with (first
    | (go_at_call 7; with_reducible refine (binoed_any _).mono ?_; rintro e wa ⟨rfl, hb⟩; replace K := st K hb; clear hb)
    | (go_at_call 8; with_reducible refine (of_any (i0.on K) (by omega)).mono ?_; rintro e wb ⟨⟨q1, rfl, hL⟩, hb⟩; replace K := st K hb; clear hb)
    | (go_at_call 8; with_reducible refine (of_any (i1.on K) (by omega)).mono ?_; rintro e wc ⟨⟨q2, rfl, hM⟩, hb⟩; replace hL := hL.on hb; replace K := st K hb; clear hb)
    | (go_at_call 10; with_reducible refine (heap_join hL hM (by omega)).mono ?_; clear hL hM; rintro e wd ⟨⟨q, rfl, hL⟩, hb⟩; have hwd := (st K hb).size; have hA := hp.Blk.new wd [.pointer q] tyH; replace K := st (st K hb) ((Below.refl _ _).alloc (Nat.le_refl _) (.cells #[.pointer q] tyH)); replace hL := hL.on ((Below.refl _ _).alloc (Nat.le_refl _) (.cells #[.pointer q] tyH)); clear hb))
  clear i0 i1
  obtain ⟨i0, hii, hz0, hz1, hz2⟩ := info_parts same.infoInt
  go_loopw [9] (fun i wr => ∃ k : Nat, ∃ q L, i = .int .i64 k ∧ k ≤ l0.length ∧ (k = 0 ∨ (k : Int) ≤ a2) ∧ L.length + k = l0.length + l1.length ∧ Below w.heap.size w wr ∧ hp.Blk wr wd.heap.size tyH [.pointer q] ∧ IsHeap wr wr.heap.size (rv q) L) (fun i _ => l0.length - (intOf i).toNat)
  case atStart => exact ⟨0, q, _, rfl, Nat.zero_le _, .inl rfl, by simp, K, hA, hL⟩
  case round =>
    clear K hA hL
    obtain ⟨k, q, L, rfl, hk, hka, hln, hb, hA, hL⟩ := hrel
    (have d0 := (hA).cell 0; simp only [List.getElem?_cons_zero] at d0)
    by_cases hlt : k < l0.length ∧ (k : Int) < a2
    · obtain ⟨h1, h2⟩ := hlt
      obtain ⟨z, tl, hs, hl⟩ := first_of (L := L) (by omega)
      have hpop := pop_cons hL hs (by omega)
      replace hs := Lib.hid hs
      clear hL
      go_wp2_with (go_at_call 17; with_reducible refine hpop.mono ?_; clear hpop; rintro e we ⟨⟨q2, rfl, hL2⟩, hb2⟩; have hA2 := hA.on hb2; have hlt2 := hA2.lt; have d2 := hA2.cell 0; have f2 := hA2.free 0; simp only [List.getElem?_cons_zero] at d2)
      go_roundw
      case rel =>
        refine ⟨k + 1, q2, tl, by go_num, by omega, .inr (by omega), by omega, ?_, (hA2.set 0 _).alloc _, ?_⟩
        · have := st hb hb2
          exact (this.setCell (by simpa using hwd) _).alloc (by have := this.size; simpa using this) _
        · refine ((hL2.keep (Keep.of_set (o := 0) hA2 (by decide) (by decide) (.pointer q2))).mono (by simp)).on ?_
          exact (Below.refl _ _).alloc (Nat.le_refl _) _
      case measure => simp [intOf]; omega
    · have hmm : max 0 (min a2 (l0.length : Int)) = k := by omega
      by_cases h2 : (k : Int) < a2
      · obtain rfl : k = l0.length := by omega
        go_wp2_with fail
        have own0 : wr.ownsRow wr.heap.size 3 1 (.slice none 0 0) 0 ((its []).map (Value.int .i64)) := World.ownsRow_nil _ _ _ _
        go_loopw [13, 14, 15] (fun u n i W => ∃ pre : List Nat, ∃ nn kk : Nat, n = .int .i64 nn ∧ i = .int .i64 kk ∧ Hid (pow2 pre + nn * 2 ^ kk = L.length) ∧ Hid (Asc 0 pre) ∧ Hid (∀ j ∈ pre, j < kk) ∧ pre.length ≤ kk ∧ kk ≤ 62 ∧ nn ≤ L.length ∧ Below wr.heap.size wr W ∧ W.ownsRow wr.heap.size 3 1 u pre.length ((its pre).map (Value.int .i64))) (fun _ n _ _ => (intOf n).toNat)
        case atStart => exact ⟨[], L.length, 0, by congr 1; omega, rfl, Lib.hid (by simp [pow2]), Lib.hid trivial, Lib.hid (by simp), Nat.le_refl _, by omega, Nat.le_refl _, Below.refl _ _, own0⟩
        case round =>
          clear own0 d0
          rename World => W
          obtain ⟨pre, nn, kk, rfl, rfl, hsum, hasc, hltk, hpl, hkk, hnl, hbW, hrow⟩ := hrel
          rcases Nat.eq_zero_or_pos nn with rfl | hnn
          · have hwf := its_wf (ks := pre) (fun j hj => by have := hltk.out j hj; omega)
            have hpi := hp.IsInts.of_owns hrow (by simp [its]) hwf
            replace hsum : Hid (pow2 pre = L.length) := Lib.hid (by have := hsum.out; simpa using this)
            replace hL := hL.on hbW
            replace hA := hA.on hbW
            replace hwf := Lib.hid hwf
            (have d0 := (hA).cell 0; simp only [List.getElem?_cons_zero] at d0)
            clear hrow hltk
            go_wp2_with (first
              | (go_at_call 18; with_reducible refine (ranks_any hL (by omega)).mono ?_; clear hL; rintro e wx ⟨⟨u, ks, rfl, hu, hks, hps⟩, hb2⟩; have heq : its ks = its pre := (by rw [Asc.one hks hasc.out (by rw [hps, hsum.out])]); replace hpi := hpi.on hb2; replace hbW := st hbW hb2; clear hb2 d0 hps hks; replace heq := Lib.hid heq)
              | (go_at_call 11; with_reducible refine (same.ints_eq heq.out hu hpi).mono ?_; rintro e wy ⟨rfl, hb2⟩; replace hbW := st hbW hb2; clear hb2))
            go_ret
            exact ⟨rfl, st hb hbW⟩
          · have hk62 := rank_lt hnn hsum.out (by omega)
            have hrow2 : ∀ (u : Value) (W' : World), W'.ownsRow wr.heap.size 3 1 u (pre.length + 1) ((its pre).map (Value.int .i64) ++ [.int .i64 (kk : Int)]) → W'.ownsRow wr.heap.size 3 1 u (pre ++ [kk]).length ((its (pre ++ [kk])).map (Value.int .i64)) := by
              intro u W' h
              simpa [its] using h
            have hb5 : pre.length + 1 ≤ 17592186044416 := by omega
            rcases Nat.mod_two_eq_zero_or_one nn with hm | hm
            · obtain ⟨h, hh⟩ : ∃ h, nn = 2 * h := ⟨nn / 2, by omega⟩
              have hs2 := Lib.hid (half hh hsum.out)
              have hl2 : Hid (∀ j ∈ pre, j < kk + 1) := Lib.hid fun j hj => by have := hltk.out j hj; omega
              go_wp2_with fail
              go_roundw
              case rel => exact ⟨pre, h, kk + 1, rfl, by go_num, hs2, hasc, hl2, by omega, by omega, by omega, hbW, hrow⟩
              case measure => simp [intOf]; omega
            · obtain ⟨h, hh⟩ : ∃ h, nn = 2 * h + 1 := ⟨nn / 2, by omega⟩
              have hs2' : Hid (pow2 (pre ++ [kk]) + h * 2 ^ (kk + 1) = L.length) := Lib.hid (by rw [pow2_snoc]; exact half1 hh hsum.out)
              have hl2 : Hid (∀ j ∈ pre ++ [kk], j < kk + 1) := Lib.hid fun j hj => by
                rcases List.mem_append.1 hj with hj | hj
                · have := hltk.out j hj; omega
                · obtain rfl : j = kk := by simpa using hj
                  omega
              have ha2 : Hid (Asc 0 (pre ++ [kk])) := Lib.hid (hasc.out.snoc hltk.out (Nat.zero_le _))
              replace hrow2 := Lib.hid hrow2
              clear hltk
              go_wp2_with (at_builtin; refine wpList_append_own _ rfl _ _ 22 rfl wr.heap.size 3 i0 (.int .i64 0) 1 8 Try.underlying22 hii hz0 hz1 hz2 rfl (by decide) _ _ _ rfl (hrow.alloc _) ⟨W.heap.size, 0, none⟩ 1 1 [.int .i64 (kk : Int)] rfl rfl (cell_one_new _ _ _) (by simp [Value.oneCell']) (by unfold maxLen; omega) (by omega) (by have := hbW.size; simp; omega) ?_; intro v' w1 hown' hgrow _; have hb1 : Below wr.heap.size wr w1 := (hbW.alloc hbW.size _).grown hgrow (by have := hbW.size; simp; omega) (fun k hk => (hrow.lt k hk).1))
              go_roundw
              case rel => exact ⟨pre ++ [kk], h, kk + 1, by congr 1; omega, by go_num, hs2', ha2, hl2, by simp; omega, by omega, by omega, hb1, hrow2.out _ _ hown'⟩
              case measure => simp [intOf]; omega
      · clear hlt
        go_wp2_with fail
        have own0 : wr.ownsRow wr.heap.size 3 1 (.slice none 0 0) 0 ((its []).map (Value.int .i64)) := World.ownsRow_nil _ _ _ _
        go_loopw [13, 14, 15] (fun u n i W => ∃ pre : List Nat, ∃ nn kk : Nat, n = .int .i64 nn ∧ i = .int .i64 kk ∧ Hid (pow2 pre + nn * 2 ^ kk = L.length) ∧ Hid (Asc 0 pre) ∧ Hid (∀ j ∈ pre, j < kk) ∧ pre.length ≤ kk ∧ kk ≤ 62 ∧ nn ≤ L.length ∧ Below wr.heap.size wr W ∧ W.ownsRow wr.heap.size 3 1 u pre.length ((its pre).map (Value.int .i64))) (fun _ n _ _ => (intOf n).toNat)
        case atStart => exact ⟨[], L.length, 0, by congr 1; omega, rfl, Lib.hid (by simp [pow2]), Lib.hid trivial, Lib.hid (by simp), Nat.le_refl _, by omega, Nat.le_refl _, Below.refl _ _, own0⟩
        case round =>
          clear own0 d0
          rename World => W
          obtain ⟨pre, nn, kk, rfl, rfl, hsum, hasc, hltk, hpl, hkk, hnl, hbW, hrow⟩ := hrel
          rcases Nat.eq_zero_or_pos nn with rfl | hnn
          · have hwf := its_wf (ks := pre) (fun j hj => by have := hltk.out j hj; omega)
            have hpi := hp.IsInts.of_owns hrow (by simp [its]) hwf
            replace hsum : Hid (pow2 pre = L.length) := Lib.hid (by have := hsum.out; simpa using this)
            replace hL := hL.on hbW
            replace hA := hA.on hbW
            replace hwf := Lib.hid hwf
            (have d0 := (hA).cell 0; simp only [List.getElem?_cons_zero] at d0)
            clear hrow hltk
            go_wp2_with (first
              | (go_at_call 18; with_reducible refine (ranks_any hL (by omega)).mono ?_; clear hL; rintro e wx ⟨⟨u, ks, rfl, hu, hks, hps⟩, hb2⟩; have heq : its ks = its pre := (by rw [Asc.one hks hasc.out (by rw [hps, hsum.out])]); replace hpi := hpi.on hb2; replace hbW := st hbW hb2; clear hb2 d0 hps hks; replace heq := Lib.hid heq)
              | (go_at_call 11; with_reducible refine (same.ints_eq heq.out hu hpi).mono ?_; rintro e wy ⟨rfl, hb2⟩; replace hbW := st hbW hb2; clear hb2))
            go_ret
            exact ⟨rfl, st hb hbW⟩
          · have hk62 := rank_lt hnn hsum.out (by omega)
            have hrow2 : ∀ (u : Value) (W' : World), W'.ownsRow wr.heap.size 3 1 u (pre.length + 1) ((its pre).map (Value.int .i64) ++ [.int .i64 (kk : Int)]) → W'.ownsRow wr.heap.size 3 1 u (pre ++ [kk]).length ((its (pre ++ [kk])).map (Value.int .i64)) := by
              intro u W' h
              simpa [its] using h
            have hb5 : pre.length + 1 ≤ 17592186044416 := by omega
            rcases Nat.mod_two_eq_zero_or_one nn with hm | hm
            · obtain ⟨h, hh⟩ : ∃ h, nn = 2 * h := ⟨nn / 2, by omega⟩
              have hs2 := Lib.hid (half hh hsum.out)
              have hl2 : Hid (∀ j ∈ pre, j < kk + 1) := Lib.hid fun j hj => by have := hltk.out j hj; omega
              go_wp2_with fail
              go_roundw
              case rel => exact ⟨pre, h, kk + 1, rfl, by go_num, hs2, hasc, hl2, by omega, by omega, by omega, hbW, hrow⟩
              case measure => simp [intOf]; omega
            · obtain ⟨h, hh⟩ : ∃ h, nn = 2 * h + 1 := ⟨nn / 2, by omega⟩
              have hs2' : Hid (pow2 (pre ++ [kk]) + h * 2 ^ (kk + 1) = L.length) := Lib.hid (by rw [pow2_snoc]; exact half1 hh hsum.out)
              have hl2 : Hid (∀ j ∈ pre ++ [kk], j < kk + 1) := Lib.hid fun j hj => by
                rcases List.mem_append.1 hj with hj | hj
                · have := hltk.out j hj; omega
                · obtain rfl : j = kk := by simpa using hj
                  omega
              have ha2 : Hid (Asc 0 (pre ++ [kk])) := Lib.hid (hasc.out.snoc hltk.out (Nat.zero_le _))
              replace hrow2 := Lib.hid hrow2
              clear hltk
              go_wp2_with (at_builtin; refine wpList_append_own _ rfl _ _ 22 rfl wr.heap.size 3 i0 (.int .i64 0) 1 8 Try.underlying22 hii hz0 hz1 hz2 rfl (by decide) _ _ _ rfl (hrow.alloc _) ⟨W.heap.size, 0, none⟩ 1 1 [.int .i64 (kk : Int)] rfl rfl (cell_one_new _ _ _) (by simp [Value.oneCell']) (by unfold maxLen; omega) (by omega) (by have := hbW.size; simp; omega) ?_; intro v' w1 hown' hgrow _; have hb1 : Below wr.heap.size wr w1 := (hbW.alloc hbW.size _).grown hgrow (by have := hbW.size; simp; omega) (fun k hk => (hrow.lt k hk).1))
              go_roundw
              case rel => exact ⟨pre ++ [kk], h, kk + 1, by congr 1; omega, by go_num, hs2', ha2, hl2, by simp; omega, by omega, by omega, hb1, hrow2.out _ _ hown'⟩
              case measure => simp [intOf]; omega
end Go.Proofs.Ytdbipbmdpgccnaa.binoRanks
