/- The reference's remainder. -/
import Derived.Test.YtkenocamlaaajaaMonoFns
namespace Go.Proofs.Ytkenocamlaaajaa.ref
open Go.RowKit mono

theorem mod_any (x : Int) (w : World) : Calls Try.prog 43 #[.int .i64 x] w fun e w' => e = .returned (.int .i64 (x % 2147483647)) ∧ w = w' := by
  rcases tmod_cases x with ⟨h1, h2⟩ | ⟨h1, h2⟩
  · have H := Lib.hid h1
    clear h1
    go_enter Try.func43, Try.ntmps43
    go_wp2
    go_ret
    exact ⟨ret_int H.out, rfl⟩
  · have H := Lib.hid h1
    have h3 : -2147483647 ≤ x.tmod 2147483647 := by have := Int.emod_nonneg x (show (2147483647 : Int) ≠ 0 by decide); omega
    clear h1
    go_enter Try.func43, Try.ntmps43
    go_wp2
    go_ret
    exact ⟨ret_int H.out, rfl⟩
end Go.Proofs.Ytkenocamlaaajaa.ref
