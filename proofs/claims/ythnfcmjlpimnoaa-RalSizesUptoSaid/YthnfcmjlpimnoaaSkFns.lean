/- Contracts of package skew's small functions: digit, isDigit, follows, Check. -/
import Derived.Test.YthnfcmjlpimnoaaChecked
import Derived.Test.YthnfcmjlpimnoaaSkMath
import Derived.Test.YthnfcmjlpimnoaaSame
import Derived.WalkKit
import Derived.WalkSmall
import Derived.BigQuiet
import Derived.Deep.QuietTactic
import Derived.Lib.Hide
namespace Go.Proofs.Ythnfcmjlpimnoaa.sk
open Go Go.RowKit

theorem land_succ (n : Nat) : n &&& (n + 1) = 0 ↔ ∃ k, n + 1 = 2 ^ k := by
  induction n using Nat.strongRecOn with
  | _ n ih =>
    have hd := @Nat.and_div_two n (n + 1)
    have hm := @Nat.and_mod_two_eq_one n (n + 1)
    rcases Nat.mod_two_eq_zero_or_one n with h | h
    · by_cases h0 : n = 0
      · subst h0
        exact ⟨fun _ => ⟨0, rfl⟩, fun _ => by simp⟩
      · constructor
        · intro he
          rw [he, show (n + 1) / 2 = n / 2 by omega, Nat.and_self] at hd
          omega
        · rintro ⟨k, hk⟩
          cases k with
          | zero => simp at hk; omega
          | succ k => rw [Nat.pow_succ] at hk; omega
    · have h0 : (n &&& (n + 1)) % 2 = 0 := by
        rcases Nat.mod_two_eq_zero_or_one (n &&& (n + 1)) with h1 | h1
        · exact h1
        · have := hm.1 h1; omega
      rw [show (n + 1) / 2 = n / 2 + 1 by omega] at hd
      have := ih (n / 2) (by omega)
      constructor
      · intro he
        obtain ⟨k, hk⟩ := this.1 (by omega)
        exact ⟨k + 1, by rw [Nat.pow_succ]; omega⟩
      · rintro ⟨k, hk⟩
        cases k with
        | zero => simp at hk; omega
        | succ k =>
          rw [Nat.pow_succ] at hk
          have := this.2 ⟨k, by omega⟩
          omega
theorem bits_and (x y : Nat) (hx : x < 9223372036854775808) (hy : y < 9223372036854775808) : bits .and .i64 x y = ((x &&& y : Nat) : Int) := by
  have h1 : (BitVec.ofInt 64 (x : Int)).toNat = x := by simp; omega
  have h2 : (BitVec.ofInt 64 (y : Int)).toNat = y := by simp; omega
  have h3 : x &&& y ≤ x := Nat.and_le_left
  show IntKind.i64.wrap (((BitVec.ofInt 64 (x : Int)) &&& (BitVec.ofInt 64 (y : Int))).toNat : Int) = _
  rw [BitVec.toNat_and, h1, h2, IntKind.wrap_i64]
  omega

/-- a digit is a number from 1 to the greatest one whose bits the next one has none of -/
theorem isD_bits {d : Int} (h1 : 0 < d) (h2 : d ≤ 1099511627775) : bits .and .i64 d (d + 1) = 0 ↔ IsD d := by
  obtain ⟨n, rfl⟩ : ∃ n : Nat, d = n := ⟨d.toNat, by omega⟩
  rw [show ((n : Int) + 1) = ((n + 1 : Nat) : Int) by omega, bits_and n (n + 1) (by omega) (by omega), Int.natCast_eq_zero, land_succ]
  constructor
  · rintro ⟨k, hk⟩
    have hdg : (n : Int) = dg k := by
      have : ((n + 1 : Nat) : Int) = ((2 ^ k : Nat) : Int) := by rw [hk]
      rw [Int.natCast_pow] at this
      unfold dg
      simp at this
      omega
    refine ⟨k, ?_, ?_, hdg⟩
    · cases k with
      | zero => rw [dg_zero] at hdg; omega
      | succ k => omega
    · by_cases hk : k ≤ 40
      · exact hk
      · have := dg_lt (show 40 < k by omega)
        rw [dg_40] at this
        omega
  · rintro ⟨k, _, _, hk⟩
    refine ⟨k, ?_⟩
    have : ((n + 1 : Nat) : Int) = ((2 ^ k : Nat) : Int) := by
      rw [Int.natCast_pow]
      unfold dg at hk
      simp
      omega
    exact Int.natCast_inj.1 this

theorem digit_any (k : Nat) (hk : k ≤ 40) (w : World) : Calls Try.prog 25 #[.int .i64 k] w fun e w' => e = .returned (.int .i64 (dg k)) ∧ w = w' := by
  have h1 : (1 : Int) ≤ 2 ^ k := by have := dg_nonneg k; unfold dg at this; omega
  have h2 : (2 : Int) ^ k ≤ 1099511627776 := by have := dg_le hk; rw [dg_40] at this; unfold dg at this; omega
  go_enter Try.func25, Try.ntmps25
  go_wp2
  go_ret
  exact ⟨rfl, rfl⟩

end Go.Proofs.Ythnfcmjlpimnoaa.sk
