/- Contracts of package skew's Check and Value. -/
import Derived.Test.YtokfogeplifedaaDoorSkFns
namespace Go.Proofs.YtokfogeplifedaaDoor.sk
open Go Go.RowKit

/-- an error of package api as a value -/
abbrev err (n : Int) : Value := .iface 24 (.int .i64 n)
/-- what Check tells of the numbers -/
def Tells (l : List Int) (e : Value) : Prop := (Ok l ∧ e = .nilIface) ∨ (¬ Ok l ∧ e = err 3)
theorem tells_any (l : List Int) : ∃ e, Tells l e := by
  by_cases h : Ok l
  · exact ⟨_, .inl ⟨h, rfl⟩⟩
  · exact ⟨_, .inr ⟨h, rfl⟩⟩
theorem Tells.ok {l : List Int} {e : Value} (h : Tells l e) (hk : Ok l) : e = .nilIface := by
  rcases h with h | h
  · exact h.2
  · exact absurd hk h.1
theorem Tells.bad {l : List Int} {e : Value} (h : Tells l e) (hk : ¬ Ok l) : e = err 3 := by
  rcases h with h | h
  · exact absurd h.1 hk
  · exact h.2

set_option maxHeartbeats 4000000 in
theorem check_raw (v : Value) (l : List Int) (w : World) (e0 : Value) (hv : hp.IsInts w w.heap.size v l) (he : Tells l e0) :
    Calls Tryd.prog 7 #[v] w fun e w' => e = .returned e0 ∧ Below w.heap.size w w' := by
  obtain ⟨a, cap, rfl, hnc, hm, hwf, hc⟩ := hv
  clear hwf hnc
  go_enter Tryd.func7, Tryd.ntmps7
  go_wp2_with fail
  go_loop [7] (fun i => ∃ k : Nat, i = .int .i64 k ∧ k ≤ l.length ∧ Hid (∀ i, i < k → OkAt l i)) (fun i => l.length - (intOf i).toNat)
  case atStart => exact ⟨0, rfl, Nat.zero_le _, by show ∀ _, _; intro i hi; omega⟩
  case round =>
    obtain ⟨k, rfl, hk, H⟩ := hrel
    by_cases hlt : k < l.length
    · obtain ⟨b, off, rfl, hb, hcell⟩ := hc (by omega)
      have hx : w.cell? ⟨b, off + k, none⟩ = some (.int .i64 (l.getD k 0)) := hcell k hlt
      have hat : IsD (l.getD k 0) ∧ (k = 0 ∨ l.getD (k - 1) 0 < l.getD k 0 ∨ (l.getD (k - 1) 0 = l.getD k 0 ∧ k = 1)) → OkAt l k := id
      have hbad : ¬ OkAt l k → e0 = err 3 := fun h => he.bad (fun h' => h (h' k hlt))
      unfold OkAt at hbad
      have hy : k ≠ 0 → w.cell? ⟨b, off + (k - 1), none⟩ = some (.int .i64 (l.getD (k - 1) 0)) := fun _ => hcell (k - 1) (by omega)
      clear hcell hc he
      obtain ⟨x, hx0⟩ : ∃ x, x = l.getD k 0 := ⟨_, rfl⟩
      obtain ⟨y, hy0⟩ : ∃ y, y = l.getD (k - 1) 0 := ⟨_, rfl⟩
      rw [← hx0] at hx hat hbad
      rw [← hy0] at hy hat hbad
      clear hx0 hy0
      by_cases hD : IsD x
      · by_cases h0 : k = 0
        · have hgood := Lib.hid (hat ⟨hD, .inl h0⟩)
          clear hat hbad hy
          subst h0
          rw [Nat.add_zero] at hx
          go_wp2_with (go_at_call 16; refine (isDigit_yes _ hD).mono ?_; rintro e w' ⟨rfl, rfl⟩)
          go_round
          case rel => exact ⟨1, rfl, by omega, by show ∀ i, i < 1 → OkAt l i; intro i hi; rw [show i = 0 by omega]; exact hgood.out⟩
          case measure => simp [intOf]; omega
        · obtain ⟨m, rfl⟩ : ∃ m, k = m + 1 := ⟨k - 1, by omega⟩
          have hy' := hy h0
          rw [Nat.add_sub_cancel] at hy'
          by_cases hF : y < x ∨ (y = x ∧ ((m : Int) + 1) = 1)
          · have hgood := Lib.hid (hat ⟨hD, .inr (by omega)⟩)
            clear hat hbad hy h0
            go_wp2_with (first | (go_at_call 16; refine (isDigit_yes _ hD).mono ?_; rintro e w' ⟨rfl, rfl⟩) | (go_at_call 17; refine (follows_yes _ hF).mono ?_; rintro e w' ⟨rfl, rfl⟩))
            go_round
            case rel =>
              refine ⟨m + 1 + 1, by go_num, by omega, ?_⟩
              show ∀ i, i < m + 1 + 1 → OkAt l i
              intro i hi
              rcases Nat.eq_or_lt_of_le (Nat.le_of_lt_succ hi) with rfl | hi
              · exact hgood.out
              · exact H.out i hi
            case measure => simp [intOf]; omega
          · have hbad' := hbad (fun h => hF (by have := h.2; omega))
            subst hbad'
            clear hat hbad hy h0
            go_wp2_with (first | (go_at_call 16; refine (isDigit_yes _ hD).mono ?_; rintro e w' ⟨rfl, rfl⟩) | (go_at_call 17; refine (follows_no _ hF).mono ?_; rintro e w' ⟨rfl, rfl⟩))
            go_ret
            exact ⟨rfl, Below.refl _ _⟩
      · have hbad' := hbad (fun h => hD h.1)
        subst hbad'
        clear hat hbad hy
        go_wp2_with (go_at_call 16; refine (isDigit_no _ hD).mono ?_; rintro e w' ⟨rfl, rfl⟩)
        go_ret
        exact ⟨rfl, Below.refl _ _⟩
    · obtain rfl : k = l.length := by omega
      obtain rfl := he.ok H.out
      go_wp2_with fail
      go_ret
      exact ⟨rfl, Below.refl _ _⟩

set_option maxHeartbeats 4000000 in
theorem value_ok {v : Value} {l : List Int} {w : World} (hv : hp.IsInts w w.heap.size v l) (hl : Ok l) :
    Calls Tryd.prog 9 #[v] w fun e w' => e = .returned (.tuple #[.int .i64 (sum l), .nilIface]) ∧ Below w.heap.size w w' := by
  have hv0 := hv
  have hlen := hl.length
  have hL := Lib.hid hl
  obtain ⟨a, cap, rfl, hnc, hm, hwf, hc⟩ := hv
  clear hwf hnc
  go_enter Tryd.func9, Tryd.ntmps9
  go_wp2_with (go_at_call 7; refine (check_raw _ l _ .nilIface hv0 (.inl ⟨hl, rfl⟩)).mono ?_; rintro e wa ⟨rfl, hba⟩)
  go_loop [5, 15] (fun s i => ∃ k : Nat, ∃ c : Int, i = .int .i64 k ∧ s = .int .i64 c ∧ k ≤ l.length ∧ 0 ≤ c ∧ c ≤ 2199023255550 ∧ Hid (c = sum (l.take k))) (fun _ i => l.length - (intOf i).toNat)
  case atStart => exact ⟨0, 0, rfl, rfl, Nat.zero_le _, by omega, by omega, by show _ = _; simp [sum]⟩
  case round =>
    obtain ⟨k, c, rfl, rfl, hk, c1, c2, H⟩ := hrel
    by_cases hlt : k < l.length
    · obtain ⟨b, off, rfl, hb, hcell⟩ := hc (by omega)
      have hx : wa.cell? ⟨b, off + k, none⟩ = some (.int .i64 (l.getD k 0)) := (hba.cell (p := ⟨b, off + k, none⟩) hb).trans (hcell k hlt)
      have hsum : c + l.getD k 0 = sum (l.take (k + 1)) := by rw [same.take_snoc l k hlt, sum_snoc, H.out]
      have hpre : Ok (l.take (k + 1)) := by
        have := hL.out
        rw [← List.take_append_drop (k + 1) l] at this
        exact this.left
      have d1 := hpre.nonneg
      have d2 := hpre.le
      rw [← hsum] at d1 d2
      replace hsum := Lib.hid hsum
      clear hcell hc hpre hv0 hl
      obtain ⟨x, hx0⟩ : ∃ x, x = l.getD k 0 := ⟨_, rfl⟩
      rw [← hx0] at hx hsum d1 d2
      clear hx0
      go_wp2_with fail
      go_round
      case rel => exact ⟨k + 1, c + x, by go_num, by go_num, by omega, d1, d2, hsum⟩
      case measure => simp [intOf]; omega
    · obtain rfl : k = l.length := by omega
      have hc' := H.out
      rw [List.take_length] at hc'
      subst hc'
      go_wp2_with fail
      go_ret2
      exact ⟨rfl, hba⟩

theorem value_bad {v : Value} {l : List Int} {w : World} (hv : hp.IsInts w w.heap.size v l) (hl : ¬ Ok l) :
    Calls Tryd.prog 9 #[v] w fun e w' => e = .returned (.tuple #[.int .i64 0, err 3]) ∧ Below w.heap.size w w' := by
  go_enter Tryd.func9, Tryd.ntmps9
  go_wp2_with (go_at_call 7; refine (check_raw _ l _ (err 3) hv (.inr ⟨hl, rfl⟩)).mono ?_; rintro e wa ⟨rfl, hba⟩)
  go_ret2
  exact ⟨rfl, hba⟩
end Go.Proofs.YtokfogeplifedaaDoor.sk
