/- slices.Reverse at a row of numbers that the call owns. -/
import Derived.Test.YthnfcmjlpimnoaaSame
import Derived.RegionTactic
import Derived.BigRegion
namespace Go.Proofs.Ythnfcmjlpimnoaa.revs
open Go Go.RowKit

/-- reversed as far as i -/
def part (l : List Int) (i : Nat) : List Int := (List.range l.length).map fun k => if k < i ∨ l.length ≤ k + i then l.getD (l.length - 1 - k) 0 else l.getD k 0
theorem part_len (l : List Int) (i : Nat) : (part l i).length = l.length := by simp [part]
theorem part_at (l : List Int) (i k : Nat) (hk : k < l.length) : (part l i)[k]? = some (if k < i ∨ l.length ≤ k + i then l.getD (l.length - 1 - k) 0 else l.getD k 0) := by
  simp [part, hk]
theorem part_zero (l : List Int) : part l 0 = l := by
  apply List.ext_getElem?
  intro k
  by_cases hk : k < l.length
  · rw [part_at l 0 k hk, if_neg (by omega)]
    simp [hk]
  · rw [List.getElem?_eq_none (by rw [part_len]; omega), List.getElem?_eq_none (by omega)]
theorem part_end (l : List Int) (i : Nat) (h : l.length ≤ 2 * i + 1) : part l i = l.reverse := by
  apply List.ext_getElem?
  intro k
  by_cases hk : k < l.length
  · rw [part_at l i k hk, List.getElem?_reverse hk]
    by_cases hc : k < i ∨ l.length ≤ k + i
    · rw [if_pos hc]
      rw [List.getElem?_eq_getElem (by omega)]
      simp [List.getD, List.getElem?_eq_getElem (show l.length - 1 - k < l.length by omega)]
    · rw [if_neg hc, show l.length - 1 - k = k by omega]
      simp [hk]
  · rw [List.getElem?_eq_none (by rw [part_len]; omega), List.getElem?_eq_none (by simp; omega)]
theorem part_step (l : List Int) (i : Nat) (h : 2 * i + 1 < l.length) : ((part l i).set i (l.getD (l.length - 1 - i) 0)).set (l.length - 1 - i) (l.getD i 0) = part l (i + 1) := by
  apply List.ext_getElem?
  intro k
  by_cases hk : k < l.length
  · rw [part_at l (i + 1) k hk]
    by_cases h1 : k = l.length - 1 - i
    · subst h1
      rw [List.getElem?_set_self (by simp [part_len]; omega), if_pos (by omega), show l.length - 1 - (l.length - 1 - i) = i by omega]
    · rw [List.getElem?_set_ne (by omega)]
      by_cases h2 : k = i
      · subst h2
        rw [List.getElem?_set_self (by simp [part_len]; omega), if_pos (by omega)]
      · rw [List.getElem?_set_ne (by omega), part_at l i k hk]
        congr 1
        by_cases hc : k < i ∨ l.length ≤ k + i
        · rw [if_pos hc, if_pos (by omega)]
        · rw [if_neg hc, if_neg (by omega)]
  · rw [List.getElem?_eq_none (by simp [part_len]; omega), List.getElem?_eq_none (by rw [part_len]; omega)]

theorem cells_at {l : List Int} {rest : List Value} (k : Nat) (hk : k < l.length) : (l.map (Value.int .i64) ++ rest)[k]? = some (.int .i64 (l.getD k 0)) := by
  rw [List.getElem?_append_left (by simpa using hk)]
  simp [hk]
theorem cells_set {l : List Int} {rest : List Value} (k : Nat) (hk : k < l.length) (x : Int) : (l.map (Value.int .i64) ++ rest).set k (.int .i64 x) = (l.set k x).map (Value.int .i64) ++ rest := by
  rw [List.set_append_left _ _ (by simpa using hk), List.map_set]

set_option maxHeartbeats 4000000 in
theorem reverse_own (u : Value) (l : List Int) (base : Nat) (w : World) (hown : w.ownsRow base 3 1 u l.length (l.map (Value.int .i64))) (hm : l.length ≤ 9223372036854775807) :
    Calls Try.prog 26 #[u] w fun e w' => e = .returned (.tuple #[]) ∧ w'.ownsRow base 3 1 u l.length (l.reverse.map (Value.int .i64)) ∧ Below base w w' := by
  obtain ⟨hl, h⟩ := hown
  rcases h with ⟨rfl, h0⟩ | ⟨g, cap, cur, rfl, hb, hg, hnc, hcm, hcs, htk⟩
  · have : l = [] := List.eq_nil_of_length_eq_zero h0
    subst this
    go_enter Try.func26, Try.ntmps26
    go_wp2_with fail
    go_loopw [2, 3] (fun i j wr => i = .int .i64 0 ∧ j = .int .i64 (-1) ∧ wr = w) (fun _ _ _ => 0)
    case atStart => exact ⟨rfl, rfl, rfl⟩
    case round =>
      obtain ⟨rfl, rfl, rfl⟩ := hrel
      go_wp2
      go_end0
      exact ⟨rfl, World.ownsRow_nil _ _ _ _, Below.refl _ _⟩
  · obtain ⟨rest, hrest⟩ : ∃ rest, cur.toList = l.map (Value.int .i64) ++ rest := ⟨cur.toList.drop (l.length * 1), by rw [← htk, List.take_append_drop]⟩
    have hk0 : hp.Blk w g 3 (l.map (Value.int .i64) ++ rest) := by unfold hp.Blk; rw [hg, ← hrest, Array.toArray_toList]
    clear hg htk
    go_enter Try.func26, Try.ntmps26
    go_wp2_with fail
    go_loopw [2, 3] (fun i j wr => ∃ m : Nat, i = .int .i64 m ∧ j = .int .i64 ((l.length : Int) - 1 - m) ∧ 2 * m ≤ l.length + 1 ∧ Below base w wr ∧ hp.Blk wr g 3 ((part l m).map (Value.int .i64) ++ rest)) (fun i _ _ => l.length + 1 - (intOf i).toNat)
    case atStart => exact ⟨0, rfl, by simp, by omega, Below.refl _ _, by rw [part_zero]; exact hk0⟩
    case round =>
      obtain ⟨m, rfl, rfl, hm2, hbw, hB⟩ := hrel
      by_cases hlt : 2 * m + 1 < l.length
      · have hx := hB.cell m
        have hy := hB.cell (l.length - 1 - m)
        have hf := hB.free
        rw [cells_at m (by rw [part_len]; omega)] at hx
        rw [cells_at (l.length - 1 - m) (by rw [part_len]; omega)] at hy
        obtain ⟨j, hj⟩ : ∃ j, l.length - 1 - m = j := ⟨_, rfl⟩
        have hji : (l.length : Int) - 1 - m = j := by omega
        have hmj : m < j := by omega
        have hjl : j < l.length := by omega
        rw [hj] at hy
        rw [hji]
        obtain ⟨x, hx0⟩ : ∃ x, x = (part l m).getD m 0 := ⟨_, rfl⟩
        obtain ⟨y, hy0⟩ : ∃ y, y = (part l m).getD j 0 := ⟨_, rfl⟩
        rw [← hx0] at hx
        rw [← hy0] at hy
        have hset : ((part l m).set m y).set j x = part l (m + 1) := by
          rw [← part_step l m hlt, hj]
          have e1 : ∀ k, k < l.length → (part l m).getD k 0 = if k < m ∨ l.length ≤ k + m then l.getD (l.length - 1 - k) 0 else l.getD k 0 := fun k hk => by
            simp only [List.getD, part_at l m k hk, Option.getD_some]
          rw [hx0, hy0, e1 m (by omega), e1 j hjl, if_neg (by omega), if_neg (by omega)]
        have hB' := (hB.set m (.int .i64 y)).set j (.int .i64 x)
        rw [cells_set m (by rw [part_len]; omega), cells_set j (by simp [part_len]; omega), hset] at hB'
        replace hB' := Lib.hid hB'
        replace hbw := Lib.hid hbw
        clear hk0 hrest hx0 hy0 hset hB
        go_wp2_with fail
        go_big_region
        go_wp2_with fail
        go_roundw
        case rel => exact ⟨m + 1, by go_num, by congr 1; omega, by omega, ((hbw.out.setCell hb _).setCell hb _).drew, hB'.out⟩
        case measure => simp [intOf]; omega
      · rw [part_end l m (by omega)] at hB
        go_wp2_with fail
        go_end0
        refine ⟨rfl, ⟨by simp, .inr ⟨g, cap, _, rfl, hb, hB, hnc, hcm, ?_, ?_⟩⟩, hbw⟩
        · have := congrArg List.length hrest
          simp at this
          simp
          omega
        · simp
end Go.Proofs.Ythnfcmjlpimnoaa.revs
