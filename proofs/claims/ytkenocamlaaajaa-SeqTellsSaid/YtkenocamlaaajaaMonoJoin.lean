/- Join on the measures of two lists is the measure of the lists, one behind the other. -/
import Derived.Test.YtkenocamlaaajaaMono
namespace Go.Proofs.Ytkenocamlaaajaa.mono
open Go.RowKit

theorem pw_zero : pw 0 = 1 := by simp [pw]
theorem pw_succ (n : Nat) : pw (n + 1) = (131 * pw n) % 2147483647 := by
  unfold pw
  rw [Int.pow_succ, Int.mul_comm, Int.mul_emod, Int.mul_emod 131 (131 ^ n % 2147483647), Int.emod_emod_of_dvd _ (Int.dvd_refl _)]

theorem mul_mod_left (u p : Int) : (u % 2147483647 * p) % 2147483647 = (u * p) % 2147483647 := by
  rw [Int.mul_emod, Int.emod_emod_of_dvd _ (Int.dvd_refl _), ← Int.mul_emod]
theorem mul_mod_right (u p : Int) : (u * (p % 2147483647)) % 2147483647 = (u * p) % 2147483647 := by
  rw [Int.mul_comm, mul_mod_left, Int.mul_comm]

abbrev hashFrom (h : Int) (l : List Int) : Int := l.foldl (fun h x => (h * 131 + (x % 2147483647 + 1)) % 2147483647) h
theorem hash_from (b : List Int) : ∀ h : Int, 0 ≤ h → h < 2147483647 → hashFrom h b = (h * pw b.length + hashOf b) % 2147483647 := by
  induction b with
  | nil =>
    intro h h1 h2
    show h = _
    rw [List.length_nil, pw_zero]
    simp only [hashOf, List.foldl_nil]
    omega
  | cons x b ih =>
    intro h h1 h2
    have e1 : hashFrom h (x :: b) = hashFrom ((h * 131 + (x % 2147483647 + 1)) % 2147483647) b := rfl
    have e2 : hashOf (x :: b) = hashFrom ((0 * 131 + (x % 2147483647 + 1)) % 2147483647) b := rfl
    have a1 := ih ((h * 131 + (x % 2147483647 + 1)) % 2147483647) (by omega) (by omega)
    have a2 := ih ((0 * 131 + (x % 2147483647 + 1)) % 2147483647) (by omega) (by omega)
    rw [e1, e2, a1, a2, List.length_cons, pw_succ]
    have m1 := mul_mod_left (h * 131 + (x % 2147483647 + 1)) (pw b.length)
    have m2 := mul_mod_left (0 * 131 + (x % 2147483647 + 1)) (pw b.length)
    have m3 := mul_mod_right h (131 * pw b.length)
    rw [Int.add_mul, Int.mul_assoc] at m1
    rw [Int.add_mul, Int.zero_mul, Int.zero_mul, Int.zero_add] at m2
    simp only [Int.zero_mul, Int.zero_add] at m2 ⊢
    have d1 := Int.add_emod ((h * 131 + (x % 2147483647 + 1)) % 2147483647 * pw b.length) (hashOf b) 2147483647
    generalize h * (131 * pw b.length % 2147483647) = X1 at *
    generalize h * (131 * pw b.length) = X2 at *
    generalize (x % 2147483647 + 1) * pw b.length = X3 at *
    generalize (x % 2147483647 + 1) % 2147483647 * pw b.length = X4 at *
    generalize (h * 131 + (x % 2147483647 + 1)) % 2147483647 * pw b.length = X5 at *
    omega

theorem hash_append (a b : List Int) : hashOf (a ++ b) = (hashOf a * pw b.length + hashOf b) % 2147483647 := by
  have h := hash_bd a
  rw [← hash_from b (hashOf a) h.1 h.2]
  simp only [hashOf, hashFrom, List.foldl_append]

theorem sum_from (b : List Int) : ∀ s : Int, -9223372036854775808 ≤ s → s ≤ 9223372036854775807 → b.foldl (fun s x => wrap64 (s + x)) s = wrap64 (s + sumOf b) := by
  induction b with
  | nil => intro s h1 h2; simp only [sumOf, List.foldl_nil, wrap64]; omega
  | cons x b ih =>
    intro s h1 h2
    have e2 : sumOf (x :: b) = b.foldl (fun s x => wrap64 (s + x)) (wrap64 (0 + x)) := rfl
    have a1 := ih (wrap64 (s + x)) (by simp only [wrap64]; omega) (by simp only [wrap64]; omega)
    have a2 := ih (wrap64 (0 + x)) (by simp only [wrap64]; omega) (by simp only [wrap64]; omega)
    rw [List.foldl_cons, e2, a1, a2]
    simp only [wrap64]
    omega
theorem sum_bd (l : List Int) : -9223372036854775808 ≤ sumOf l ∧ sumOf l ≤ 9223372036854775807 := by
  rcases List.eq_nil_or_concat l with rfl | ⟨l, x, rfl⟩
  · simp [sumOf]
  · rw [List.concat_eq_append, sum_snoc]; simp only [wrap64]; omega
theorem sum_append (a b : List Int) : sumOf (a ++ b) = wrap64 (sumOf a + sumOf b) := by
  have h := sum_bd a
  rw [← sum_from b (sumOf a) h.1 h.2]
  simp only [sumOf, List.foldl_append]

theorem lst_from (b : List Int) : ∀ m : Int, m ≤ 9223372036854775807 → b.foldl min m = min m (lstOf b) := by
  induction b with
  | nil => intro m h; simp only [lstOf, List.foldl_nil]; omega
  | cons x b ih =>
    intro m h
    have e2 : lstOf (x :: b) = b.foldl min (min 9223372036854775807 x) := rfl
    rw [List.foldl_cons, e2, ih (min m x) (by omega), ih (min 9223372036854775807 x) (by omega)]
    omega
theorem lst_bd (l : List Int) : lstOf l ≤ 9223372036854775807 := by
  rcases List.eq_nil_or_concat l with rfl | ⟨l, x, rfl⟩
  · simp [lstOf]
  · rw [List.concat_eq_append]
    have := lst_from (l ++ [x]) 9223372036854775807 (by omega)
    have e : lstOf (l ++ [x]) = (l ++ [x]).foldl min 9223372036854775807 := rfl
    omega
theorem lst_append (a b : List Int) : lstOf (a ++ b) = min (lstOf a) (lstOf b) := by
  rw [← lst_from b (lstOf a) (lst_bd a)]
  simp only [lstOf, List.foldl_append]

theorem mst_from (b : List Int) : ∀ m : Int, -9223372036854775808 ≤ m → b.foldl max m = max m (mstOf b) := by
  induction b with
  | nil => intro m h; simp only [mstOf, List.foldl_nil]; omega
  | cons x b ih =>
    intro m h
    have e2 : mstOf (x :: b) = b.foldl max (max (-9223372036854775808) x) := rfl
    rw [List.foldl_cons, e2, ih (max m x) (by omega), ih (max (-9223372036854775808) x) (by omega)]
    omega
theorem mst_bd (l : List Int) : -9223372036854775808 ≤ mstOf l := by
  rcases List.eq_nil_or_concat l with rfl | ⟨l, x, rfl⟩
  · simp [mstOf]
  · rw [List.concat_eq_append]
    have := mst_from (l ++ [x]) (-9223372036854775808) (by omega)
    have e : mstOf (l ++ [x]) = (l ++ [x]).foldl max (-9223372036854775808) := rfl
    omega
theorem mst_append (a b : List Int) : mstOf (a ++ b) = max (mstOf a) (mstOf b) := by
  rw [← mst_from b (mstOf a) (mst_bd a)]
  simp only [mstOf, List.foldl_append]

theorem join_of (l r : List Int) (w : World) (hb : l.length + r.length ≤ 9223372036854775807) :
    Calls Try.prog 25 #[mvOf l.length l, mvOf r.length r] w fun e w' => e = .returned (mvOf (l ++ r).length (l ++ r)) ∧ Below w.heap.size w w' := by
  refine (join_any _ _ _ _ _ _ _ _ _ _ w (by omega)).mono fun e w' h => ⟨?_, h.2⟩
  rw [h.1]
  have h1 := hash_bd l
  have h2 := hash_bd r
  have e1 : wrap64 ((l.length : Int) + r.length) = ((l ++ r).length : Nat) := by simp only [wrap64, List.length_append]; omega
  have e5 : (hashOf l % 2147483647 * pw ((r.length : Int)).toNat % 2147483647 + hashOf r % 2147483647) % 2147483647 = hashOf (l ++ r) := by
    rw [hash_append, Int.emod_eq_of_lt h1.1 h1.2, Int.toNat_natCast]
    omega
  rw [e1, e5, ← sum_append, ← lst_append, ← mst_append]

/-- the two together are named -/
theorem join_to (l r t : List Int) (w : World) (h : l ++ r = t) (hb : l.length + r.length ≤ 9223372036854775807) :
    Calls Try.prog 25 #[mvOf l.length l, mvOf r.length r] w fun e w' => e = .returned (mvOf t.length t) ∧ Below w.heap.size w w' := h ▸ join_of l r w hb
theorem join_none_left (l : List Int) (w : World) (hb : l.length ≤ 9223372036854775807) :
    Calls Try.prog 25 #[mv 0 0 9223372036854775807 (-9223372036854775808) 0, mvOf l.length l] w fun e w' => e = .returned (mvOf l.length l) ∧ Below w.heap.size w w' := join_to [] l l w rfl (by simpa using hb)
theorem join_none_right (l : List Int) (w : World) (hb : l.length ≤ 9223372036854775807) :
    Calls Try.prog 25 #[mvOf l.length l, mv 0 0 9223372036854775807 (-9223372036854775808) 0] w fun e w' => e = .returned (mvOf l.length l) ∧ Below w.heap.size w w' := join_to l [] l w (by simp) (by simpa using hb)
end Go.Proofs.Ytkenocamlaaajaa.mono
