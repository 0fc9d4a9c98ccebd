/- Contracts of package mono's functions that return measures. -/
import Derived.Test.YtkenocamlaaajaaMonoFns
import Derived.Test.YtkenocamlaaajaaReg
import Derived.Test.YtkenocamlaaajaaHeap
import Derived.StillTailTactics
import Derived.Deep.RegionWith
import Derived.Deep.DeepCutAuto
import Derived.Deep.RegionHeld3
import Derived.Lib.MinMax
import Derived.WalkSmall
namespace Go.Proofs.Ytkenocamlaaajaa.mono
open Go.RowKit

abbrev mv (n s lo hi h : Int) : Value := .agg #[.int .i64 n, .int .i64 s, .int .i64 lo, .int .i64 hi, .int .i64 h]

theorem none_any (w : World) : Calls Try.prog 121 #[] w fun e w' => e = .returned (mv 0 0 9223372036854775807 (-9223372036854775808) 0) ∧ Below w.heap.size w w' := by
  go_enter Try.func121, Try.ntmps121
  go_wp2
  exact bodyPost_ret (v := mv 0 0 9223372036854775807 (-9223372036854775808) 0) (by simp [results, Try.results121, go_sem]) rfl ⟨rfl, (Below.refl _ _).alloc (Nat.le_refl _) _⟩

theorem one_any (x : Int) (w : World) : Calls Try.prog 118 #[.int .i64 x] w fun e w' => e = .returned (mv 1 x x x ((x % 2147483647 + 1) % 2147483647)) ∧ Below w.heap.size w w' := by
  go_enter Try.func118, Try.ntmps118
  have h1 : 0 ≤ x % 2147483647 := by omega
  have h2 : x % 2147483647 < 2147483647 := by omega
  go_wp2_with (go_at_call 45; refine (reduce_any _ _).mono ?_; rintro e w' ⟨rfl, rfl⟩)
  exact bodyPost_ret (v := mv 1 x x x ((x % 2147483647 + 1) % 2147483647)) (by simp [results, Try.results118, go_sem]) rfl ⟨rfl, (Below.refl _ _).alloc (Nat.le_refl _) _⟩

set_option maxHeartbeats 4000000 in
theorem join_any (n s lo hi h n' s' lo' hi' h' : Int) (w : World) (hn : n' ≤ 9223372036854775807) :
    Calls Try.prog 25 #[mv n s lo hi h, mv n' s' lo' hi' h'] w fun e w' =>
      e = .returned (mv (wrap64 (n + n')) (wrap64 (s + s')) (min lo lo') (max hi hi') ((h % 2147483647 * pw n'.toNat % 2147483647 + h' % 2147483647) % 2147483647)) ∧ Below w.heap.size w w' := by
  have p1 := pw_bd n'.toNat
  have h1 : 0 ≤ h % 2147483647 := by omega
  have h2 : h % 2147483647 < 2147483647 := by omega
  have h3 : 0 ≤ h' % 2147483647 := by omega
  have h4 : h' % 2147483647 < 2147483647 := by omega
  have b1 : 0 ≤ h % 2147483647 * pw n'.toNat := Int.mul_nonneg h1 p1.1
  have b2 : h % 2147483647 * pw n'.toNat ≤ 2147483647 * 2147483647 := Int.mul_le_mul (by omega) (by omega) p1.1 (by omega)
  have b5 : h % 2147483647 * pw n'.toNat ≤ 9223372036854775807 := by omega
  have b6 : 0 ≤ h % 2147483647 * pw n'.toNat % 2147483647 := by omega
  have b7 : h % 2147483647 * pw n'.toNat % 2147483647 < 2147483647 := by omega
  clear b2 p1
  go_enter Try.func25, Try.ntmps25
  go_wp2_with fail
  go_quiet ((first | (go_at_call 45; exact Calls.quiet_of_same ((reduce_any _ _).mono fun e w' h => ⟨h.1, h.2.symm⟩)) | (go_at_call 46; exact Calls.quiet_of_same ((power_any _ _ (by omega)).mono fun e w' h => ⟨h.1, h.2.symm⟩))))
  go_wp2
  (refine reg.region_tail_again 27 (by kernel_rfl) (by kernel_rfl) ?_; simp only [List.take_succ_cons, List.take_zero, List.drop_succ_cons, List.drop_zero]; (repeat (go_big_quiet_step ((go_at_call 45; exact Calls.quiet_of_same ((reduce_any _ _).mono fun e w' h => ⟨h.1, h.2.symm⟩))))); refine wpQuiet_nil ?_; intro _ hw'; obtain ⟨nq, hw''⟩ := hw'; subst hw'')
  go_wp2
  refine bodyPost_ret (v := mv (wrap64 (n + n')) (wrap64 (s + s')) (min lo lo') (max hi hi') ((h % 2147483647 * pw n'.toNat % 2147483647 + h' % 2147483647) % 2147483647)) (by simp [results, Try.results25, go_sem]) rfl ⟨rfl, ?_⟩
  ((repeat' (first | with_reducible exact Below.refl _ _ | with_reducible apply Below.setCell | with_reducible apply below_drewN | with_reducible apply Below.drew | with_reducible apply Below.alloc)) <;> (first | (simp; done) | (simp; omega) | omega))

/-- the measure of a list, step by step -/
def hashOf : List Int → Int
  | l => l.foldl (fun h x => (h * 131 + (x % 2147483647 + 1)) % 2147483647) 0
def sumOf (l : List Int) : Int := l.foldl (fun s x => wrap64 (s + x)) 0
def lstOf (l : List Int) : Int := l.foldl min 9223372036854775807
def mstOf (l : List Int) : Int := l.foldl max (-9223372036854775808)
abbrev mvOf (n : Nat) (l : List Int) : Value := mv n (sumOf l) (lstOf l) (mstOf l) (hashOf l)

theorem hash_bd (l : List Int) : 0 ≤ hashOf l ∧ hashOf l < 2147483647 := by
  unfold hashOf
  suffices H : ∀ h : Int, 0 ≤ h → h < 2147483647 → 0 ≤ l.foldl (fun h x => (h * 131 + (x % 2147483647 + 1)) % 2147483647) h ∧ l.foldl (fun h x => (h * 131 + (x % 2147483647 + 1)) % 2147483647) h < 2147483647 from H 0 (by omega) (by omega)
  induction l with
  | nil => intro h h1 h2; exact ⟨h1, h2⟩
  | cons x l ih => intro h h1 h2; exact ih _ (by simp only []; omega) (by simp only []; omega)
theorem take_snoc (zs : List Int) (k : Nat) (h : k < zs.length) : zs.take (k + 1) = zs.take k ++ [zs.getD k 0] := by
  rw [List.take_succ_eq_append_getElem h]; simp [h]
theorem sum_snoc (l : List Int) (x : Int) : sumOf (l ++ [x]) = wrap64 (sumOf l + x) := by simp [sumOf]
theorem least_snoc (l : List Int) (x : Int) : lstOf (l ++ [x]) = min (lstOf l) x := by simp [lstOf]
theorem most_snoc (l : List Int) (x : Int) : mstOf (l ++ [x]) = max (mstOf l) x := by simp [mstOf]
theorem hash_snoc (l : List Int) (x : Int) : hashOf (l ++ [x]) = (hashOf l % 2147483647 * pw (1 : Int).toNat % 2147483647 + (x % 2147483647 + 1) % 2147483647 % 2147483647) % 2147483647 := by
  rw [show pw (1 : Int).toNat = 131 from by simp [pw]]
  simp only [hashOf, List.foldl_append, List.foldl_cons, List.foldl_nil]
  omega

end Go.Proofs.Ytkenocamlaaajaa.mono
