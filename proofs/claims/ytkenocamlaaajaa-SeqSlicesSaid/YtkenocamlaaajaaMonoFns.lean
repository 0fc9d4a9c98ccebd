/- Contracts of package mono's functions on plain numbers: reduce and power. -/
import Derived.Test.YtkenocamlaaajaaChecked
import Derived.WalkKit
import Derived.BigQuiet
import Derived.Deep.QuietTactic
import Derived.Lib.Hide
namespace Go.Proofs.Ytkenocamlaaajaa.mono
open Go.RowKit

theorem tmod_eq (x : Int) : x.tmod 2147483647 = if 0 ≤ x ∨ x % 2147483647 = 0 then x % 2147483647 else x % 2147483647 - 2147483647 := by
  have h1 := Int.tmod_eq_emod (a := x) (b := 2147483647)
  rw [h1]
  have h2 : (2147483647 ∣ x) ↔ x % 2147483647 = 0 := ⟨Int.emod_eq_zero_of_dvd, Int.dvd_of_emod_eq_zero⟩
  simp only [h2]
  split <;> simp
theorem tmod_cases (x : Int) : (x.tmod 2147483647 = x % 2147483647 ∧ 0 ≤ x.tmod 2147483647) ∨ (x.tmod 2147483647 + 2147483647 = x % 2147483647 ∧ x.tmod 2147483647 < 0) := by
  have h := tmod_eq x
  split at h <;> omega

theorem ret_int {k : IntKind} {a b : Int} (h : a = b) : Ending.returned (.int k a) = .returned (.int k b) := by rw [h]

theorem reduce_any (x : Int) (w : World) : Calls Try.prog 45 #[.int .i64 x] w fun e w' => e = .returned (.int .i64 (x % 2147483647)) ∧ w = w' := by
  rcases tmod_cases x with ⟨h1, h2⟩ | ⟨h1, h2⟩
  · have H := Lib.hid h1
    clear h1
    go_enter Try.func45, Try.ntmps45
    go_wp2
    go_ret
    exact ⟨ret_int H.out, rfl⟩
  · have H := Lib.hid h1
    have h3 : -2147483647 ≤ x.tmod 2147483647 := by have := Int.emod_nonneg x (show (2147483647 : Int) ≠ 0 by decide); omega
    clear h1
    go_enter Try.func45, Try.ntmps45
    go_wp2
    go_ret
    exact ⟨ret_int H.out, rfl⟩

/-- 131, taken n times, modulo Prime -/
def pw (n : Nat) : Int := (131 ^ n : Int) % 2147483647

theorem pw_bd (n : Nat) : 0 ≤ pw n ∧ pw n < 2147483647 := by unfold pw; omega

theorem pow_mod (a : Int) (k : Nat) : (a % 2147483647) ^ k % 2147483647 = a ^ k % 2147483647 := by
  induction k with
  | zero => simp only [Int.pow_zero]
  | succ k ih => rw [Int.pow_succ, Int.mul_emod, ih, Int.emod_emod_of_dvd _ (Int.dvd_refl _), ← Int.mul_emod, ← Int.pow_succ]

theorem sq_pow (s : Int) (k : Nat) : (s * s) ^ k = s ^ (2 * k) := by
  rw [Int.pow_mul]
  congr 1
  rw [Int.pow_succ, Int.pow_succ, Int.pow_zero, Int.one_mul]

theorem step_odd (r s : Int) (n k : Nat) (h : n = 2 * k + 1) : ((r * s) % 2147483647) * ((s * s) % 2147483647) ^ k % 2147483647 = r * s ^ n % 2147483647 := by
  rw [Int.mul_emod, Int.emod_emod_of_dvd _ (Int.dvd_refl _), pow_mod, ← Int.mul_emod, sq_pow, h, Int.pow_succ, Int.mul_assoc, Int.mul_comm s]

theorem step_even (r s : Int) (n k : Nat) (h : n = 2 * k) : r * ((s * s) % 2147483647) ^ k % 2147483647 = r * s ^ n % 2147483647 := by
  rw [Int.mul_emod, pow_mod, ← Int.mul_emod, sq_pow, h]

set_option maxHeartbeats 4000000 in
theorem power_any (n : Int) (w : World) (hn : n ≤ 9223372036854775807) : Calls Try.prog 46 #[.int .i64 n] w fun e w' => e = .returned (.int .i64 (pw n.toNat)) ∧ w = w' := by
  go_enter Try.func46, Try.ntmps46
  go_wp2
  go_loop [0, 3, 4] (fun i r s => ∃ m : Int, ∃ r' s' : Int, i = .int .i64 m ∧ r = .int .i64 r' ∧ s = .int .i64 s' ∧ 0 ≤ r' ∧ r' < 2147483647 ∧ 0 ≤ s' ∧ s' < 2147483647 ∧ m ≤ 9223372036854775807 ∧ Hid (r' * s' ^ m.toNat % 2147483647 = pw n.toNat)) (fun i _ _ => (intOf i).toNat)
  case atStart => exact ⟨n, 1, 131, rfl, rfl, rfl, by omega, by omega, by omega, by omega, hn, by show _ = _; rw [Int.one_mul]; rfl⟩
  case round =>
    obtain ⟨m, r, s, rfl, rfl, rfl, h1, h2, h3, h4, hx, H⟩ := hrel
    by_cases hm : 0 < m
    · have b1 : 0 ≤ r * s := Int.mul_nonneg h1 h3
      have b2 : r * s ≤ 2147483647 * 2147483647 := Int.mul_le_mul (by omega) (by omega) h3 (by omega)
      have b3 : 0 ≤ s * s := Int.mul_nonneg h3 h3
      have b4 : s * s ≤ 2147483647 * 2147483647 := Int.mul_le_mul (by omega) (by omega) h3 (by omega)
      have b5 : r * s ≤ 9223372036854775807 := by omega
      have b6 : s * s ≤ 9223372036854775807 := by omega
      clear b2 b4
      by_cases ho : m % 2 = 1
      · go_wp2
        go_round
        case rel => exact ⟨m / 2, _, _, rfl, rfl, rfl, by omega, by omega, by omega, by omega, by omega, by show _ = _; rw [step_odd r s m.toNat _ (by omega)]; exact H.out⟩
        case measure => simp [intOf]; omega
      · have ho' : m % 2 = 0 := by omega
        go_wp2
        go_round
        case rel => exact ⟨m / 2, _, _, rfl, rfl, rfl, by omega, by omega, by omega, by omega, by omega, by show _ = _; rw [step_even r s m.toNat _ (by omega)]; exact H.out⟩
        case measure => simp [intOf]; omega
    · go_wp2
      go_ret
      refine ⟨ret_int ?_, rfl⟩
      rw [← H.out, show m.toNat = 0 from by omega, Int.pow_zero, Int.mul_one]
      omega
end Go.Proofs.Ytkenocamlaaajaa.mono
