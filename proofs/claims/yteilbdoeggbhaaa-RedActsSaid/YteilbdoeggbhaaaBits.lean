/- Package math/bits: Len of a number; how many rows so many numbers fill. -/
import Derived.Test.YteilbdoeggbhaaaChecked
import Derived.Lib.Hide
import Derived.Lib.Strings
import Derived.Lib.Slices
import Derived.Lib.Small
import Derived.Lib.Walk
import Derived.Lib.BitFns
namespace Go.Proofs.Yteilbdoeggbhaaa.bts
open Go Go.RowKit

theorem len8_byte {x y : Int} {b : Nat} (h0 : 0 ≤ y) (h1 : y ≤ 255) (hb : b = 0 ∨ 2 ^ b ≤ x.toNat) (hx : x.toNat < 2 ^ 64) (hy : y.toNat = x.toNat / 2 ^ b) : Lib.len8 y = (Lib.bitLen x.toNat : Int) - b := by
  rw [Lib.len8_of y h0 h1, hy]
  rcases hb with rfl | hb
  · simp
  · rw [Lib.bitLen_shift b x.toNat hb hx]
    omega

set_option maxHeartbeats 4000000 in
set_option maxRecDepth 100000 in
theorem len64_any (x : Int) (w : World) (h0 : 0 ≤ x) (h1 : x < 18446744073709551616) :
    Calls Try.prog 49 #[.int .u64 x] w fun e w' => e = .returned (.int .i64 (Lib.bitLen x.toNat)) ∧ w' = w := by
  have hL : Lib.bitLen x.toNat ≤ 64 := Lib.bitLen_le _ 64 (Nat.le_refl _) (by omega)
  go_enter Try.func49, Try.ntmps49
  go_wp2
  all_goals (go_ret; refine ⟨congrArg Ending.returned (congrArg (Value.int IntKind.i64) ?_), rfl⟩)
  all_goals (first
    | (rw [len8_byte (x := x) (b := 56) ?_ ?_ ?_ ?_ ?_] <;> first | omega | (right; omega))
    | (rw [len8_byte (x := x) (b := 48) ?_ ?_ ?_ ?_ ?_] <;> first | omega | (right; omega))
    | (rw [len8_byte (x := x) (b := 40) ?_ ?_ ?_ ?_ ?_] <;> first | omega | (right; omega))
    | (rw [len8_byte (x := x) (b := 32) ?_ ?_ ?_ ?_ ?_] <;> first | omega | (right; omega))
    | (rw [len8_byte (x := x) (b := 24) ?_ ?_ ?_ ?_ ?_] <;> first | omega | (right; omega))
    | (rw [len8_byte (x := x) (b := 16) ?_ ?_ ?_ ?_ ?_] <;> first | omega | (right; omega))
    | (rw [len8_byte (x := x) (b := 8) ?_ ?_ ?_ ?_ ?_] <;> first | omega | (right; omega))
    | (rw [len8_byte (x := x) (b := 0) ?_ ?_ ?_ ?_ ?_] <;> first | omega | (left; rfl)))

theorem bit_two : ∀ (f x : Nat), x < 2 ^ f → f ≤ 64 → x ≠ 0 → ∃ k, Lib.bitLen x = k + 1 ∧ 2 ^ k ≤ x ∧ x < 2 ^ (k + 1)
  | 0, x, h, _, h0 => absurd (show x = 0 by simpa using h) h0
  | f + 1, x, h, hf, h0 => by
    have h64 : x < 2 ^ 64 := Nat.lt_of_lt_of_le h (Nat.pow_le_pow_right (by omega) hf)
    rw [Lib.bitLen_half x h0 h64]
    by_cases h1 : x / 2 = 0
    · obtain rfl : x = 1 := by omega
      exact ⟨0, by decide, by decide, by decide⟩
    · rw [Nat.pow_succ] at h
      obtain ⟨k, e, h2, h3⟩ := bit_two f (x / 2) (by omega) (by omega) h1
      rw [Nat.pow_succ] at h3
      exact ⟨k + 1, by omega, by rw [Nat.pow_succ]; omega, by rw [Nat.pow_succ, Nat.pow_succ]; omega⟩

/-- so many numbers fill k rows -/
def Rows (n k : Nat) : Prop := 2 ^ k ≤ n + 1 ∧ n + 1 < 2 ^ (k + 1)

set_option maxHeartbeats 4000000 in
theorem len_any {n : Nat} (w : World) (h : n < 9223372036854775807) :
    Calls Try.prog 35 #[.int .u64 ((n : Int) + 1)] w fun e w' => (∃ k : Nat, e = .returned (.int .i64 ((k : Int) + 1)) ∧ Rows n k ∧ k < 64) ∧ w' = w := by
  have hcl := fun W => len64_any ((n : Int) + 1) W (by omega) (by omega)
  obtain ⟨k, e, h2, h3⟩ := bit_two 64 (n + 1) (by omega) (by omega) (by omega)
  have hk : k < 64 := by
    have := Lib.bitLen_le (n + 1) 64 (Nat.le_refl _) (by omega)
    omega
  rw [show ((n : Int) + 1).toNat = n + 1 by omega, e] at hcl
  have hd := Lib.hid (show Rows n k ∧ k < 64 from ⟨⟨h2, h3⟩, hk⟩)
  clear e h2 h3 hk
  obtain ⟨N, hN⟩ : ∃ N : Int, (n : Int) + 1 = N := ⟨_, rfl⟩
  rw [hN] at hcl ⊢
  replace hN := Lib.hid hN
  clear h
  go_enter Try.func35, Try.ntmps35
  go_wp2_with (go_at_call 49; refine (hcl _).mono ?_; rintro e w' ⟨rfl, rfl⟩)
  go_ret
  exact ⟨⟨k, by simp, hd.out⟩, rfl⟩
end Go.Proofs.Yteilbdoeggbhaaa.bts
