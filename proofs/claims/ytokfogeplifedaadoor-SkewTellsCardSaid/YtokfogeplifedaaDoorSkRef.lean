/- Contracts of the document's answers on skew digits: SumOf, SkewOf, SkewFault. -/
import Derived.Test.YtokfogeplifedaaDoorSkOps
import Derived.Test.YtokfogeplifedaaDoorInts
namespace Go.Proofs.YtokfogeplifedaaDoor.sk
open Go Go.RowKit

set_option maxHeartbeats 4000000 in
theorem sumOf_any {v : Value} {l : List Int} {w : World} (hv : hp.IsInts w w.heap.size v l) (hl : Ok l) :
    Calls Tryd.prog 8 #[v] w fun e w' => e = .returned (.int .i64 (sum l)) ∧ Below w.heap.size w w' := by
  have hL := Lib.hid hl
  have hlen := hl.length
  obtain ⟨a, cap, rfl, hnc, hm, hwf, hc⟩ := hv
  clear hwf hnc hl
  go_enter Tryd.func8, Tryd.ntmps8
  go_wp2_with fail
  go_loop [3, 4] (fun s i => ∃ k : Nat, ∃ c : Int, i = .int .i64 k ∧ s = .int .i64 c ∧ k ≤ l.length ∧ 0 ≤ c ∧ c ≤ 2199023255550 ∧ Hid (c = sum (l.take k))) (fun _ i => l.length - (intOf i).toNat)
  case atStart => exact ⟨0, 0, rfl, rfl, Nat.zero_le _, by omega, by omega, by show _ = _; simp [sum]⟩
  case round =>
    obtain ⟨k, c, rfl, rfl, hk, c1, c2, H⟩ := hrel
    by_cases hlt : k < l.length
    · obtain ⟨b, off, rfl, hb, hcell⟩ := hc (by omega)
      have hx : w.cell? ⟨b, off + k, none⟩ = some (.int .i64 (l.getD k 0)) := hcell k hlt
      have hsum : c + l.getD k 0 = sum (l.take (k + 1)) := by rw [same.take_snoc l k hlt, sum_snoc, H.out]
      have hpre : Ok (l.take (k + 1)) := by
        have := hL.out
        rw [← List.take_append_drop (k + 1) l] at this
        exact this.left
      have d1 := hpre.nonneg
      have d2 := hpre.le
      rw [← hsum] at d1 d2
      replace hsum := Lib.hid hsum
      clear hcell hc hpre
      obtain ⟨x, hx0⟩ : ∃ x, x = l.getD k 0 := ⟨_, rfl⟩
      rw [← hx0] at hx hsum d1 d2
      clear hx0
      go_wp2_with fail
      go_round
      case rel => exact ⟨k + 1, c + x, by go_num, by go_num, by omega, d1, d2, hsum⟩
      case measure => simp [intOf]; omega
    · obtain rfl : k = l.length := by omega
      have hc' := H.out
      rw [List.take_length] at hc'
      subst hc'
      go_wp2_with fail
      go_ret
      exact ⟨rfl, Below.refl _ _⟩

set_option maxHeartbeats 8000000 in
theorem skewOf_any {n : Int} {w : World} (h1 : 0 ≤ n) (h2 : n ≤ 1099511627776) :
    Calls Tryd.prog 10 #[.int .i64 n] w fun e w' => (∃ u t, e = .returned u ∧ hp.IsInts w' w'.heap.size u t ∧ Ok t ∧ sum t = n) ∧ Below w.heap.size w w' := by
  obtain ⟨T, hT, hTs⟩ := exists_any h1 h2
  have hlen := hT.length
  replace hT := Lib.hid hT
  have hTS := Lib.hid hTs
  go_enter Tryd.func10, Tryd.ntmps10
  go_wp2_with fail
  go_loopw [0, 3, 4] (fun nv u dv W => ∃ m d : Int, ∃ pre suf : List Int, nv = .int .i64 m ∧ dv = .int .i64 d ∧ Hid (IsD d) ∧ 1 ≤ d ∧ d ≤ 1099511627775 ∧ 0 ≤ m ∧ m ≤ 2 * d ∧ m ≤ 1099511627776 ∧ Hid (T = pre ++ suf ∧ sum pre = m) ∧ suf.length ≤ 41 ∧ Below w.heap.size w W ∧ hp.IsInts W W.heap.size u suf) (fun nv _ dv _ => (intOf nv).toNat + (intOf dv).toNat)
  case atStart => exact ⟨n, 1099511627775, T, [], rfl, rfl, IsD.top, by omega, by omega, h1, by omega, h2, ⟨by simp, hTs⟩, by simp, Below.refl _ _, hp.IsInts.nil _ _⟩
  case round =>
    obtain ⟨m, d, pre, suf, rfl, rfl, hD, hd1, hd2, hm0, hm2, hm3, H, hsl, hb, hu⟩ := hrel
    clear h1 h2 hTs
    rename World => W
    by_cases hm : 0 < m
    · by_cases hge : d ≤ m
      · have hpre : Ok pre := by have := hT.out; rw [H.out.1] at this; exact this.left
        obtain ⟨q, hq⟩ := hpre.last hD.out (by rw [H.out.2]; exact hge) (by rw [H.out.2]; exact hm2)
        have hq2 : sum q = m - d := by have := H.out.2; rw [hq, sum_snoc] at this; omega
        have hT2 : T = q ++ (d :: suf) := by rw [H.out.1, hq]; simp
        have hl2 : suf.length + 1 ≤ 41 := by have := congrArg List.length hT2; simp at this; omega
        have H2 : Hid (T = q ++ (d :: suf) ∧ sum q = m - d) := ⟨hT2, hq2⟩
        have hwf : ∀ x ∈ d :: suf, (Lit.int .i64 x).wf = true := fun x hx => hT.out.wf x (by rw [hT2]; exact List.mem_append_right _ hx)
        replace hwf := Lib.hid hwf
        clear hq hq2 hT2 hpre H
        go_wp2_with (at_builtin; refine hp.append_ints rfl _ _ 22 rfl W.heap.size 3 Tryd.underlying22 same.infoInt _ 1 [d] rfl (hp.row_one _ _) _ suf rfl (hu.below ((Below.refl _ _).alloc (Nat.le_refl _) _)) (by omega) (by simp) ?_; intro u1 w1 hown hgrow)
        go_roundw
        case rel =>
          have kb : Below W.heap.size W w1 := ((Below.refl _ _).alloc (Nat.le_refl _) _).grown hgrow (by simp) (fun k e => by cases e; exact Nat.le_refl _)
          refine ⟨m - d, d, q, d :: suf, by go_num, rfl, hD, hd1, hd2, by omega, by omega, by omega, H2, by simp; omega, hb.trans (kb.mono hb.size), hp.IsInts.of_owns hown (by simp; omega) hwf.out⟩
        case measure => simp [intOf]; omega
      · have hne : d ≠ 1 := by omega
        obtain ⟨e1, e2⟩ := hD.out.down hne
        obtain ⟨c, hc⟩ : ∃ c, c = d / 2 := ⟨_, rfl⟩
        rw [← hc] at e1 e2
        have c1 := e1.bd
        replace e1 := Lib.hid e1
        replace hc := Lib.hid hc
        replace e2 := Lib.hid e2
        go_wp2_with fail
        go_roundw
        case rel =>
          have := e2.out
          exact ⟨m, c, pre, suf, rfl, by rw [hc.out], e1, c1.1, c1.2, hm0, by omega, hm3, H, hsl, hb, hu⟩
        case measure => simp [intOf]; omega
    · obtain rfl : m = 0 := by omega
      have hpre : Ok pre := by have := hT.out; rw [H.out.1] at this; exact this.left
      have hp0 := hpre.zero (by rw [H.out.2]; omega)
      have hTs : T = suf := by have := H.out.1; rwa [hp0] at this
      subst hTs
      clear hpre hp0 H
      go_wp2_with fail
      go_ret
      exact ⟨⟨_, rfl, _, hu, hT.out, hTS.out⟩, hb⟩

theorem dg_ne {x : Int} {j : Nat} (hj : j ≤ 39) (h1 : dg (j + 1) ≠ x) (h2 : j = 0 ∨ dg j < x) (h3 : ¬ (j < 39 ∧ dg (j + 1) < x)) : ¬ IsD x := by
  rintro ⟨m, m1, m2, rfl⟩
  rcases Nat.lt_trichotomy m (j + 1) with h | rfl | h
  · rcases h2 with rfl | h2
    · omega
    · have := lt_of_dg h2; omega
  · exact h1 rfl
  · have := dg_lt h
    have := dg_nonneg (j + 1)
    exact h3 ⟨by omega, by omega⟩

set_option maxHeartbeats 8000000 in
theorem fault_raw (v : Value) (l : List Int) (w : World) (r : Bool) (hv : hp.IsInts w w.heap.size v l) (hr : r = true ↔ ¬ Ok l) :
    Calls Tryd.prog 5 #[v] w fun e w' => e = .returned (.bool r) ∧ Below w.heap.size w w' := by
  obtain ⟨a, cap, rfl, hnc, hm, hwf, hc⟩ := hv
  clear hwf hnc
  go_enter Tryd.func5, Tryd.ntmps5
  go_wp2_with fail
  go_loopw [3] (fun i W => ∃ k : Nat, i = .int .i64 k ∧ k ≤ l.length ∧ Below w.heap.size w W ∧ Hid (∀ i, i < k → OkAt l i)) (fun i _ => l.length - (intOf i).toNat)
  case atStart => exact ⟨0, rfl, Nat.zero_le _, Below.refl _ _, by show ∀ _, _; intro i hi; omega⟩
  case round =>
    obtain ⟨k, rfl, hk, hbW, H⟩ := hrel
    rename World => W0
    by_cases hlt : k < l.length
    · obtain ⟨b, off, rfl, hb, hcell⟩ := hc (by omega)
      have hx0 : w.cell? ⟨b, off + k, none⟩ = some (.int .i64 (l.getD k 0)) := hcell k hlt
      have hat : IsD (l.getD k 0) ∧ (k = 0 ∨ l.getD (k - 1) 0 < l.getD k 0 ∨ (l.getD (k - 1) 0 = l.getD k 0 ∧ k = 1)) → OkAt l k := id
      have hbad : ¬ OkAt l k → r = true := fun h => hr.2 (fun h' => h (h' k hlt))
      unfold OkAt at hbad
      have hy0 : k ≠ 0 → w.cell? ⟨b, off + (k - 1), none⟩ = some (.int .i64 (l.getD (k - 1) 0)) := fun _ => hcell (k - 1) (by omega)
      clear hcell hc hr
      obtain ⟨x, hxx⟩ : ∃ x, x = l.getD k 0 := ⟨_, rfl⟩
      obtain ⟨y, hyy⟩ : ∃ y, y = l.getD (k - 1) 0 := ⟨_, rfl⟩
      rw [← hxx] at hx0 hat hbad
      rw [← hyy] at hy0 hat hbad
      clear hxx hyy
      replace hat := Lib.hid hat
      replace hbad := Lib.hid hbad
      go_wp2_with fail
      go_loopw [4, 5] (fun dv jv W => ∃ j : Nat, ∃ d : Int, jv = .int .i64 j ∧ dv = .int .i64 d ∧ j ≤ 39 ∧ 0 ≤ d ∧ d ≤ 1099511627775 ∧ Hid (d = dg (j + 1)) ∧ Hid (j = 0 ∨ dg j < x) ∧ Below w.heap.size w W) (fun _ jv _ => 39 - (intOf jv).toNat)
      case atStart => exact ⟨0, 1, rfl, rfl, by omega, by omega, by omega, by show _ = _; rfl, by show _ ∨ _; exact .inl rfl, hbW⟩
      case round =>
        clear hbW
        rename World => W
        obtain ⟨j, d, rfl, rfl, hj, hd0, hd1, hd, hlow, hbW⟩ := hrel
        have hx : W.cell? ⟨b, off + k, none⟩ = some (.int .i64 x) := (hbW.cell (p := ⟨b, off + k, none⟩) hb).trans hx0
        have hy : k ≠ 0 → W.cell? ⟨b, off + (k - 1), none⟩ = some (.int .i64 y) := fun h => (hbW.cell (p := ⟨b, off + (k - 1), none⟩) hb).trans (hy0 h)
        clear hx0 hy0
        by_cases hin : j < 39 ∧ d < x
        · obtain ⟨i1, i2⟩ := hin
          clear hy
          have hs := dg_succ (j + 1)
          have hle := dg_le (show j + 1 + 1 ≤ 40 by omega)
          rw [dg_40] at hle
          rw [hs, ← hd.out] at hle
          have hnext : 2 * d + 1 = dg (j + 1 + 1) := by rw [hs, hd.out]
          replace hnext := Lib.hid hnext
          have hup : dg (j + 1) < x := by rw [← hd.out]; exact i2
          replace hup := Lib.hid hup
          clear hs
          go_wp2_with fail
          go_roundw
          case rel => exact ⟨j + 1, 2 * d + 1, by go_num, by go_num, by omega, by omega, by omega, hnext, by show _ ∨ _; exact .inr hup.out, hbW⟩
          case measure => simp [intOf]; omega
        · by_cases hdx : d = x
          · have hD : IsD x := by rw [← hdx, hd.out]; exact IsD.at (by omega) (by omega)
            subst hdx
            clear hin hlow hd
            replace hD := Lib.hid hD
            by_cases h0 : k = 0
            · have hgood := Lib.hid (hat.out ⟨hD.out, .inl h0⟩)
              clear hat hbad hy
              subst h0
              rw [Nat.add_zero] at hx
              by_cases hj39 : j < 39
              all_goals (
                go_wp2_with fail
                go_big_region
                go_wp2_with fail
                go_roundw
                case rel => exact ⟨1, rfl, by omega, hbW.drew, by show ∀ i, i < 1 → OkAt l i; intro i hi; rw [show i = 0 by omega]; exact hgood.out⟩
                case measure => simp [intOf]; omega)
            · obtain ⟨m, rfl⟩ : ∃ m, k = m + 1 := ⟨k - 1, by omega⟩
              have hy' := hy h0
              rw [Nat.add_sub_cancel] at hy'
              clear hy
              by_cases hm0 : m = 0
              · subst hm0
                rw [Nat.add_zero] at hy'
                rcases Int.lt_trichotomy y d with hlt' | heq | hgt
                · have hgood := Lib.hid (hat.out ⟨hD.out, .inr (.inl hlt')⟩)
                  have n1 : decide (d < y) = false := by simp; omega
                  have n2 : (d == y) = false := by simp; omega
                  clear hat hbad h0
                  by_cases hj39 : j < 39
                  all_goals (
                    go_wp2_with fail
                    go_big_region
                    go_wp2_with fail
                    go_roundw
                    case rel =>
                      refine ⟨0 + 1 + 1, by go_num, by omega, hbW.drew, ?_⟩
                      show ∀ i, i < 0 + 1 + 1 → OkAt l i
                      intro i hi
                      rcases Nat.eq_or_lt_of_le (Nat.le_of_lt_succ hi) with rfl | hi
                      · exact hgood.out
                      · exact H.out i hi
                    case measure => simp [intOf]; omega)
                · subst heq
                  have hgood := Lib.hid (hat.out ⟨hD.out, .inr (.inr ⟨rfl, rfl⟩)⟩)
                  clear hat hbad h0
                  by_cases hj39 : j < 39
                  all_goals (
                    go_wp2_with fail
                    go_big_region
                    go_wp2_with fail
                    go_roundw
                    case rel =>
                      refine ⟨0 + 1 + 1, by go_num, by omega, hbW.drew, ?_⟩
                      show ∀ i, i < 0 + 1 + 1 → OkAt l i
                      intro i hi
                      rcases Nat.eq_or_lt_of_le (Nat.le_of_lt_succ hi) with rfl | hi
                      · exact hgood.out
                      · exact H.out i hi
                    case measure => simp [intOf]; omega)
                · obtain rfl := hbad.out (fun h => by have := h.2; omega)
                  clear hat hbad h0
                  by_cases hj39 : j < 39
                  all_goals (
                    go_wp2_with fail
                    go_big_region
                    go_wp2_with fail
                    go_ret
                    exact ⟨rfl, hbW.drew⟩)
              · have hm1 : 0 < m := by omega
                have hm2 : (0 : Int) < m := by omega
                have hm3 : (1 : Int) < (m : Int) + 1 := by omega
                rcases Int.lt_trichotomy y d with hlt' | heq | hgt
                · have hgood := Lib.hid (hat.out ⟨hD.out, .inr (.inl hlt')⟩)
                  have n1 : decide (d < y) = false := by simp; omega
                  have n2 : (d == y) = false := by simp; omega
                  clear hat hbad h0
                  by_cases hj39 : j < 39
                  all_goals (
                    go_wp2_with fail
                    go_big_region
                    go_wp2_with fail
                    go_roundw
                    case rel =>
                      refine ⟨m + 1 + 1, by go_num, by omega, hbW.drew, ?_⟩
                      show ∀ i, i < m + 1 + 1 → OkAt l i
                      intro i hi
                      rcases Nat.eq_or_lt_of_le (Nat.le_of_lt_succ hi) with rfl | hi
                      · exact hgood.out
                      · exact H.out i hi
                    case measure => simp [intOf]; omega)
                · subst heq
                  obtain rfl := hbad.out (fun h => by have := h.2; omega)
                  clear hat hbad h0
                  by_cases hj39 : j < 39
                  all_goals (
                    go_wp2_with fail
                    go_big_region
                    go_wp2_with fail
                    go_ret
                    exact ⟨rfl, hbW.drew⟩)
                · obtain rfl := hbad.out (fun h => by have := h.2; omega)
                  clear hat hbad h0
                  by_cases hj39 : j < 39
                  all_goals (
                    go_wp2_with fail
                    go_big_region
                    go_wp2_with fail
                    go_ret
                    exact ⟨rfl, hbW.drew⟩)
          · have hnD : ¬ IsD x := dg_ne hj (by rw [← hd.out]; exact hdx) hlow.out (by rw [← hd.out]; exact hin)
            obtain rfl := hbad.out (fun h => hnD h.1)
            clear hnD
            by_cases hj39 : j < 39
            · have hdx2 : ¬ d < x := fun h => hin ⟨hj39, h⟩
              clear hin hy
              go_wp2_with fail
              go_ret
              exact ⟨rfl, hbW⟩
            · obtain rfl : j = 39 := by omega
              clear hin hy
              go_wp2_with fail
              go_ret
              exact ⟨rfl, hbW⟩
    · obtain rfl : k = l.length := by omega
      have hrf : r = false := by
        cases r with
        | false => rfl
        | true => exact absurd H.out (hr.1 rfl)
      subst hrf
      go_wp2_with fail
      go_ret
      exact ⟨rfl, hbW⟩
end Go.Proofs.YtokfogeplifedaaDoor.sk
