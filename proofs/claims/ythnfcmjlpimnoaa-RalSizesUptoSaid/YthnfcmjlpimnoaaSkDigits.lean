/- Contract of package skew's Digits. -/
import Derived.Test.YthnfcmjlpimnoaaSkCheck
import Derived.Test.YthnfcmjlpimnoaaRevs
namespace Go.Proofs.Ythnfcmjlpimnoaa.sk
open Go Go.RowKit

theorem digits_bad {n : Int} {w : World} (h : n < 0 ∨ 1099511627776 < n) :
    Calls Try.prog 17 #[.int .i64 n] w fun e w' => e = .returned (.tuple #[.slice none 0 0, err 1]) ∧ Below w.heap.size w w' := by
  by_cases h0 : n < 0
  · clear h
    go_enter Try.func17, Try.ntmps17
    go_wp2_with fail
    go_ret2
    exact ⟨rfl, Below.refl _ _⟩
  · have h1 : 1099511627776 < n := by omega
    clear h
    go_enter Try.func17, Try.ntmps17
    go_wp2_with fail
    go_ret2
    exact ⟨rfl, Below.refl _ _⟩

set_option maxHeartbeats 8000000 in
theorem digits_any {n : Int} {w : World} (h1 : 0 ≤ n) (h2 : n ≤ 1099511627776) :
    Calls Try.prog 17 #[.int .i64 n] w fun e w' => (∃ u t, e = .returned (.tuple #[u, .nilIface]) ∧ hp.IsInts w' w'.heap.size u t ∧ Ok t ∧ sum t = n) ∧ Below w.heap.size w w' := by
  obtain ⟨T, hT, hTs⟩ := exists_any h1 h2
  have hlen := hT.length
  have own0 : w.ownsRow w.heap.size 3 1 (.slice none 0 0) 0 (([] : List Int).map (Value.int .i64)) := World.ownsRow_nil _ _ _ _
  obtain ⟨i0, hi, hz0, hz1, hz2⟩ := info_parts same.infoInt
  have hd40 := dg_40
  replace hT := Lib.hid hT
  have hTS := Lib.hid hTs
  go_enter Try.func17, Try.ntmps17
  go_wp2_with fail
  go_loopw [0, 4, 5] (fun nv u kv wr => ∃ k : Nat, ∃ m : Int, ∃ pre suf : List Int, kv = .int .i64 k ∧ nv = .int .i64 m ∧ k ≤ 40 ∧ 0 ≤ m ∧ m ≤ 2 * dg k ∧ m ≤ 1099511627776 ∧ Hid (T = pre ++ suf ∧ sum pre = m) ∧ suf.length ≤ 41 ∧ Below w.heap.size w wr ∧ wr.ownsRow w.heap.size 3 1 u suf.length (suf.reverse.map (Value.int .i64))) (fun _ _ kv _ => (intOf kv).toNat)
  case atStart => exact ⟨40, n, T, [], rfl, rfl, by omega, h1, by rw [dg_40]; omega, h2, ⟨by simp, hTs⟩, by simp, Below.refl _ _, own0⟩
  case round =>
    obtain ⟨k, m, pre, suf, rfl, rfl, hk, hm0, hm2, hm3, H, hsl, hb, hrow⟩ := hrel
    clear h1 h2 hTs own0
    by_cases hk0 : 0 < k
    · have hd1 := dg_le (show 1 ≤ k from hk0)
      rw [show dg 1 = 1 from rfl] at hd1
      have hd2 := dg_le hk
      rw [dg_40] at hd2
      have hprev : dg k = 2 * dg (k - 1) + 1 := by have := dg_succ (k - 1); rwa [show k - 1 + 1 = k by omega] at this
      have hD : IsD (dg k) := IsD.at hk0 hk
      have hdig := fun W => digit_any k hk W
      obtain ⟨d, hd⟩ : ∃ d, d = dg k := ⟨_, rfl⟩
      rw [← hd] at hd1 hd2 hprev hD hdig hm2
      replace hD := Lib.hid hD
      replace hprev := Lib.hid hprev
      replace hd := Lib.hid hd
      clear hd40
      go_wp2_with (go_at_call 25; refine (hdig _).mono ?_; rintro e w' ⟨rfl, rfl⟩)
      clear hdig
      go_loopw [0, 4] (fun nv u W => ∃ m : Int, ∃ pre suf : List Int, nv = .int .i64 m ∧ 0 ≤ m ∧ m ≤ 2 * d ∧ m ≤ 1099511627776 ∧ Hid (T = pre ++ suf ∧ sum pre = m) ∧ suf.length ≤ 41 ∧ Below w.heap.size w W ∧ W.ownsRow w.heap.size 3 1 u suf.length (suf.reverse.map (Value.int .i64))) (fun nv _ _ => (intOf nv).toNat)
      case atStart => exact ⟨m, pre, suf, rfl, hm0, hm2, hm3, H, hsl, hb, hrow⟩
      case round =>
        clear hm0 hm2 hm3 H hsl hb hrow
        rename World => W
        obtain ⟨m', pre', suf', rfl, hm0, hm2, hm3, H, hsl, hb, hrow⟩ := hrel
        by_cases hge : d ≤ m'
        · have hpre : Ok pre' := by have := hT.out; rw [H.out.1] at this; exact this.left
          obtain ⟨q, hq⟩ := hpre.last hD.out (by rw [H.out.2]; exact hge) (by rw [H.out.2]; exact hm2)
          have hq2 : sum q = m' - d := by have := H.out.2; rw [hq, sum_snoc] at this; omega
          have hT2 : T = q ++ (d :: suf') := by rw [H.out.1, hq]; simp
          have hl2 : suf'.length + 1 ≤ 41 := by have := congrArg List.length hT2; simp at this; omega
          have H2 : Hid (T = q ++ (d :: suf') ∧ sum q = m' - d) := ⟨hT2, hq2⟩
          clear hq hq2 hT2 hpre H
          go_wp2_with (at_builtin; refine wpList_append_own _ rfl _ _ 22 rfl w.heap.size 3 i0 (.int .i64 0) 1 8 Try.underlying22 hi hz0 hz1 hz2 rfl (by decide) _ _ _ rfl (hrow.alloc _) ⟨W.heap.size, 0, none⟩ 1 1 [.int .i64 d] rfl rfl (cell_one_new _ _ _) (by simp [Value.oneCell']) (by unfold maxLen; omega) (by omega) (by have := hb.size; simp; omega) ?_; intro v' w1 hown' hgrow _)
          go_roundw
          case rel =>
            refine ⟨m' - d, q, d :: suf', by go_num, by omega, by omega, by omega, H2, by simp; omega, ?_, by simpa using hown'⟩
            exact (hb.alloc hb.size _).grown hgrow (by have := hb.size; simp; omega) (fun k hk => (hrow.lt k hk).1)
          case measure => simp [intOf]; omega
        · go_wp2_with fail
          go_roundw
          case rel =>
            refine ⟨k - 1, m', pre', suf', by go_num, rfl, by omega, hm0, by have := hprev.out; omega, hm3, H, hsl, hb, hrow⟩
          case measure => simp [intOf]; omega
    · obtain rfl : k = 0 := by omega
      have hm00 : m = 0 := by rw [dg_zero] at hm2; omega
      subst hm00
      have hpre : Ok pre := by have := hT.out; rw [H.out.1] at this; exact this.left
      have hp0 := hpre.zero (by rw [H.out.2]; omega)
      have hTs : T = suf := by have := H.out.1; rwa [hp0] at this
      have hTn := hTs
      rw [← hTs] at hrow hsl
      clear hpre hp0 H hd40 hm0 hm2 hm3
      have hrr : ∀ (u : Value) (W : World), W.ownsRow w.heap.size 3 1 u T.length (T.reverse.map (Value.int .i64)) → Calls Try.prog 26 #[u] W fun e w' => e = .returned (.tuple #[]) ∧ w'.ownsRow w.heap.size 3 1 u T.length (T.map (Value.int .i64)) ∧ Below w.heap.size W w' := fun u W h => by
        have := revs.reverse_own u T.reverse w.heap.size W (by rw [List.length_reverse]; exact h) (by simp; omega)
        rwa [List.length_reverse, List.reverse_reverse] at this
      go_wp2_with (go_at_call 26; refine (hrr _ _ hrow).mono ?_; rintro e wz ⟨rfl, hz, hbz⟩)
      go_ret2
      exact ⟨⟨_, T, rfl, hp.IsInts.of_owns hz rfl hT.out.wf, hT.out, hTS.out⟩, hb.trans hbz⟩
end Go.Proofs.Ythnfcmjlpimnoaa.sk
