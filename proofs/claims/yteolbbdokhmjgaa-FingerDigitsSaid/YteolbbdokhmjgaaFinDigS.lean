/- What the law of digits counts. -/
import Derived.Test.YteolbbdokhmjgaaFinDig
import Derived.ChangeKeysEq
namespace Go.Proofs.Yteolbbdokhmjgaa.fin
open Go Go.RowKit

/-- the sum of the first m levels -/
def psum (ds : List (Nat × Nat)) (m : Nat) : Nat := dsum 0 (ds.take m)
theorem dsum_snoc : ∀ (ds : List (Nat × Nat)) (k m : Nat) (d : Nat × Nat), ds[m]? = some d → dsum k (ds.take (m + 1)) = dsum k (ds.take m) + 2 ^ (k + m) * (d.1 + d.2)
  | [], _, _, _, h => by simp at h
  | a :: ds, k, 0, d, h => by
    obtain rfl : a = d := by simpa using h
    simp [dsum]
  | a :: ds, k, m + 1, d, h => by
    have := dsum_snoc ds (k + 1) m d (by simpa using h)
    rw [List.take_succ_cons, List.take_succ_cons]
    show 2 ^ k * _ + dsum (k + 1) (ds.take (m + 1)) = 2 ^ k * _ + dsum (k + 1) (ds.take m) + _
    rw [this, show k + 1 + m = k + (m + 1) by omega, Nat.add_assoc]
theorem dsum_take : ∀ (ds : List (Nat × Nat)) (k m : Nat), dsum k (ds.take m) ≤ dsum k ds
  | [], k, m => by simp [dsum]
  | a :: ds, k, 0 => by simp [dsum]
  | a :: ds, k, m + 1 => by
    have := dsum_take ds (k + 1) m
    rw [List.take_succ_cons]
    show 2 ^ k * _ + dsum (k + 1) (ds.take m) ≤ 2 ^ k * _ + dsum (k + 1) ds
    omega
/-- what a round of the law's inner loop finds: s so far, z the level's size -/
theorem round_of {n : Nat} {ds : List (Nat × Nat)} (h : Dg n ds) {m : Nat} (hm : m < ds.length) :
    ∃ x y, ds[m]? = some (x, y) ∧ psum ds (m + 1) = psum ds m + 2 ^ m * (x + y) ∧ psum ds (m + 1) ≤ n ∧ 2 ^ (m + 1) ≤ n + 1 ∧ ((m + 1 = ds.length ∧ x = 1 ∧ y = 0) ∨ (1 ≤ x ∧ x ≤ 4 ∧ 1 ≤ y ∧ y ≤ 4)) := by
  obtain ⟨h1, h2, h3, h4⟩ := h
  have hd : ds[m]? = some (ds[m].1, ds[m].2) := by simp [hm]
  have e1 := dsum_snoc ds 0 m _ hd
  rw [Nat.zero_add] at e1
  have e2 := dsum_take ds 0 (m + 1)
  have e3 : 2 ^ (m + 1) ≤ 2 ^ ds.length := Nat.pow_le_pow_right (by omega) hm
  refine ⟨_, _, hd, e1, Nat.le_trans e2 h1, Nat.le_trans e3 h2, ?_⟩
  rcases h4 m _ hd with ⟨a, b⟩ | a
  · exact .inl ⟨a, by simpa using congrArg Prod.fst b, by simpa using congrArg Prod.snd b⟩
  · exact .inr a
theorem psum_all (ds : List (Nat × Nat)) {n : Nat} (h : Dg n ds) : psum ds ds.length ≤ n := by
  unfold psum
  rw [List.take_length]
  exact h.1
/-- two pairs are compared -/
theorem eq_two (x y a b : Int) (w : World) : Sem.run Try.prog (Op.equalIn 10000 tyD (.agg #[.int .i64 x, .int .i64 y]) (.agg #[.int .i64 a, .int .i64 b])) w = .ok (x == a && y == b) w := by
  obtain ⟨i, hi, hz, hsz, hby⟩ := info_parts same.infoInt
  have hu := Try.underlying3
  rw [run_equalIn_array w 9999 (e := 3) (n := 2) _ _ Try.underlying47 hi]
  rw [show List.range 2 = [0, 1] from rfl]
  by_cases h : x = a <;> by_cases h' : y = b <;> simp [Op.eqItems, part, go_sem, hu, Program.cellsOf, hi, hsz, h, h']
theorem eq_yes (w : World) : Sem.run Try.prog (Op.equalIn 10000 tyD (.agg #[.int .i64 1, .int .i64 0]) (.agg #[.int .i64 1, .int .i64 0])) w = .ok true w := eq_two 1 0 1 0 w
theorem eq_no (x y : Nat) (h : 1 ≤ y) (w : World) : Sem.run Try.prog (Op.equalIn 10000 tyD (.agg #[.int .i64 (x : Int), .int .i64 (y : Int)]) (.agg #[.int .i64 1, .int .i64 0])) w = .ok false w := by
  rw [eq_two]
  have : ((y : Int) == 0) = false := by simp; omega
  rw [this, Bool.and_false]
end Go.Proofs.Yteolbbdokhmjgaa.fin
