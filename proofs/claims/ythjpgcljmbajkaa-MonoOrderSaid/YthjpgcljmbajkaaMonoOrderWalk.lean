/- The walk of MonoOrder. -/
import Derived.Test.YthjpgcljmbajkaaMono
namespace Go.Proofs.Ythjpgcljmbajkaa.monoOrder
open Go.RowKit mono

theorem mod_any (x : Int) (w : World) : Calls Try.prog 14 #[.int .i64 x] w fun e w' => e = .returned (.int .i64 (x % 2147483647)) ∧ w = w' := by
  rcases tmod_cases x with ⟨h1, h2⟩ | ⟨h1, h2⟩
  · have H := Lib.hid h1
    clear h1
    go_enter Try.func14, Try.ntmps14
    go_wp2
    go_ret
    exact ⟨ret_int H.out, rfl⟩
  · have H := Lib.hid h1
    have h3 : -2147483647 ≤ x.tmod 2147483647 := by have := Int.emod_nonneg x (show (2147483647 : Int) ≠ 0 by decide); omega
    clear h1
    go_enter Try.func14, Try.ntmps14
    go_wp2
    go_ret
    exact ⟨ret_int H.out, rfl⟩

theorem hash2 (a b : Int) : hashOf [a, b] = (131 * (a % 2147483647) + b % 2147483647 + 132) % 2147483647 := by
  simp only [hashOf, List.foldl_cons, List.foldl_nil]
  omega
/-- 130 has an inverse modulo Prime -/
theorem cancel (a b : Int) (ha : 0 ≤ a ∧ a < 2147483647) (hb : 0 ≤ b ∧ b < 2147483647) (h : (131 * a + b + 132) % 2147483647 = (131 * b + a + 132) % 2147483647) : a = b := by
  have h1 : (130 * (a - b)) % 2147483647 = 0 := by omega
  omega
theorem wrap_comm (a b : Int) : sumOf [b, a] = sumOf [a, b] := by
  simp only [sumOf, List.foldl_cons, List.foldl_nil, wrap64]
  omega

theorem lst_comm (a b : Int) : lstOf [b, a] = lstOf [a, b] := by
  simp only [lstOf, List.foldl_cons, List.foldl_nil]
  omega
theorem mst_comm (a b : Int) : mstOf [b, a] = mstOf [a, b] := by
  simp only [mstOf, List.foldl_cons, List.foldl_nil]
  omega
theorem of2 (a b : Int) (w : World) (g : Nat) (hg : g < w.heap.size) (h0 : w.cell? ⟨g, 0, none⟩ = some (.int .i64 a)) (h1 : w.cell? ⟨g, 1, none⟩ = some (.int .i64 b)) (wa : (Lit.int .i64 a).wf = true) (wb : (Lit.int .i64 b).wf = true) :
    Calls Try.prog 10 #[.slice (some ⟨g, 0, none⟩) 2 2] w fun e w' => e = .returned (mvOf 2 [a, b]) ∧ Below w.heap.size w w' := by
  refine of_any _ [a, b] w ⟨_, _, rfl, by simp, by simp [wa, wb], fun _ => ⟨g, 0, rfl, hg, fun k hk => ?_⟩⟩
  match k, hk with
  | 0, _ => simpa using h0
  | 1, _ => simpa using h1

/-- the two the other way round: the same but for the hash -/
theorem of2s (a b : Int) (w : World) (g : Nat) (hg : g < w.heap.size) (h0 : w.cell? ⟨g, 0, none⟩ = some (.int .i64 b)) (h1 : w.cell? ⟨g, 1, none⟩ = some (.int .i64 a)) (wa : (Lit.int .i64 a).wf = true) (wb : (Lit.int .i64 b).wf = true) :
    Calls Try.prog 10 #[.slice (some ⟨g, 0, none⟩) 2 2] w fun e w' => e = .returned (mv 2 (sumOf [a, b]) (lstOf [a, b]) (mstOf [a, b]) (hashOf [b, a])) ∧ Below w.heap.size w w' := by
  refine (of2 b a w g hg h0 h1 wb wa).mono fun e w' h => ⟨?_, h.2⟩
  rw [h.1, mvOf, wrap_comm a b, lst_comm a b, mst_comm a b]
  rfl

set_option maxHeartbeats 4000000 in
theorem walk (a0 a1 : Int) (w : World) (w0 : (Lit.int .i64 a0).wf = true) (w1' : (Lit.int .i64 a1).wf = true) :
    Calls Try.prog 6 #[.int .i64 a0, .int .i64 a1] w fun e w' => e = .returned (.bool true) ∧ Below w.heap.size w w' := by
  go_enter Try.func6, Try.ntmps6
  go_wp2_with fail
  refine (of2 a0 a1 _ w.heap.size (by simp) (by simp) (by simp) w0 w1').mono ?_
  rintro e w1 ⟨rfl, hb1⟩
  go_wp2_with fail
  refine (of2s a0 a1 _ _ (by simp) (by simp) (by simp) w0 w1').mono ?_
  rintro e w2 ⟨rfl, hb2⟩
  have hz1 := hb1.size
  have hz2 := hb2.size
  have hx : hp.Blk w2 w1.heap.size 24 [.int .i64 2, .int .i64 (sumOf [a0, a1]), .int .i64 (lstOf [a0, a1]), .int .i64 (mstOf [a0, a1]), .int .i64 (hashOf [a0, a1])] :=
    ((hp.Blk.new w1 [.int .i64 2, .int .i64 (sumOf [a0, a1]), .int .i64 (lstOf [a0, a1]), .int .i64 (mstOf [a0, a1]), .int .i64 (hashOf [a0, a1])] _).alloc _).below hb2 (by simp; omega)
  simp only [World.size_alloc] at hz1 hz2
  have hw2 : Below w.heap.size w w2 := by
    ((repeat' (first | with_reducible exact Below.refl _ _ | with_reducible apply Below.setCell | with_reducible apply below_drewN | with_reducible apply Below.drew | with_reducible apply Below.alloc | with_reducible refine Below.trans ?_ (Below.mono (by assumption) ?_))) <;> (first | (simp; done) | (simp; omega) | omega))
  obtain ⟨c0, c1, c2, c3, c4⟩ := hx.cells5
  have hlt := hx.lt
  clear hb1 hb2 hx
  by_cases hmod : a0 % 2147483647 = a1 % 2147483647
  · have m1 : (a0 % 2147483647 == a1 % 2147483647) = true := by simpa using hmod
    have m2 : (hashOf [a0, a1] == hashOf [a1, a0]) = true := by rw [hash2, hash2]; simp; omega
    clear hmod
    go_wp2_with fail
    go_quiet ((go_at_call 14; exact Calls.quiet_of_same ((mod_any _ _).mono fun e w' h => ⟨h.1, h.2.symm⟩)))
    go_wp2
    go_ret
    refine ⟨rfl, ?_⟩
    ((repeat' (first | with_reducible exact Below.refl _ _ | with_reducible apply Below.setCell | with_reducible apply below_drewN | with_reducible apply Below.drew | with_reducible apply Below.alloc | with_reducible refine Below.trans ?_ (Below.mono (by assumption) ?_))) <;> (first | (simp; done) | (simp; omega) | omega))
  · have m1 : (a0 % 2147483647 == a1 % 2147483647) = false := by simpa using hmod
    have m2 : (hashOf [a0, a1] == hashOf [a1, a0]) = false := by
      rw [hash2, hash2, beq_eq_false_iff_ne]
      intro h
      exact hmod (cancel _ _ (by omega) (by omega) h)
    clear hmod
    go_wp2_with fail
    go_quiet ((go_at_call 14; exact Calls.quiet_of_same ((mod_any _ _).mono fun e w' h => ⟨h.1, h.2.symm⟩)))
    go_wp2
    go_ret
    refine ⟨rfl, ?_⟩
    ((repeat' (first | with_reducible exact Below.refl _ _ | with_reducible apply Below.setCell | with_reducible apply below_drewN | with_reducible apply Below.drew | with_reducible apply Below.alloc | with_reducible refine Below.trans ?_ (Below.mono (by assumption) ?_))) <;> (first | (simp; done) | (simp; omega) | omega))
#print axioms walk
end Go.Proofs.Ythjpgcljmbajkaa.monoOrder
