/- The walk of SeqEdits. -/
import Derived.Test.YtkenocamlaaajaaSeqWalks
import Derived.Test.YtkenocamlaaajaaRefEdit
namespace Go.Proofs.Ytkenocamlaaajaa.seqEdits
open Go Go.RowKit Go.Proofs.Ytkenocamlaaajaa.fin Go.Proofs.Ytkenocamlaaajaa.mono
set_option linter.unusedVariables false

set_option maxRecDepth 100000 in
set_option maxHeartbeats 16000000 in
theorem walk_of (v0 : Value) (l0 T : List Int) (n : Nat) (i x k m y z : Int) (ge th : Bool) (w : World) (i0 : hp.IsInts w w.heap.size v0 l0) (bd : l0.length ≤ 17592186043904)
    (HI : ∀ W u, IsT W u l0 → Calls Try.prog 19 #[u, .int .i64 i, .int .i64 x] W fun e w' => (∃ q, e = .returned (.tuple #[.agg #[.pointer q], .bool true]) ∧ IsT w' (.agg #[.pointer q]) T) ∧ Below W.heap.size W w')
    (HD : ∀ W u, IsT W u T → Calls Try.prog 13 #[u, .int .i64 i] W fun e w' => (∃ q, e = .returned (.tuple #[.agg #[.pointer q], .bool true]) ∧ IsT w' (.agg #[.pointer q]) l0) ∧ Below W.heap.size W w')
    (HA1 : ∀ W u, IsT W u l0 → Calls Try.prog 11 #[u, .int .i64 k] W fun e w' => e = .returned (.tuple #[.int .i64 y, .bool th]) ∧ Below W.heap.size W w')
    (HA2 : ∀ W u, IsT W u T → Calls Try.prog 11 #[u, .int .i64 m] W fun e w' => e = .returned (.tuple #[.int .i64 (if th = true then y else z), .bool th]) ∧ Below W.heap.size W w')
    (HA3 : ∀ W u, IsT W u T → Calls Try.prog 11 #[u, .int .i64 i] W fun e w' => e = .returned (.tuple #[.int .i64 x, .bool true]) ∧ Below W.heap.size W w')
    (HL : ∀ W u, IsT W u T → Calls Try.prog 23 #[u] W fun e w' => e = .returned (.int .i64 ((n : Int) + 1)) ∧ Below W.heap.size W w')
    (hn : l0.length = n) (hge : if ge = true then i ≤ k ∧ wrap64 (k + 1) = m else ¬ i ≤ k ∧ k = m) :
    Calls Try.prog 4 #[v0, .int .i64 i, .int .i64 x, .int .i64 k] w fun e w' => e = .returned (.bool true) ∧ Below w.heap.size w w' := by
  have O0 := fun W (K : Below w.heap.size w W) => sOf v0 l0 W (i0.on K) (by omega)
  have I0 := fun W u (h : IsT W u l0) => sInts h (by omega)
  have S0 := fun W v (K : Below w.heap.size w W) (h : hp.IsInts W W.heap.size v l0) => same.ints_eq rfl h (i0.on K)
  obtain ⟨z0, c0, rfl, -⟩ := i0
  simp only [hn] at O0 I0 S0 bd ⊢
  replace hn := Lib.hid hn
  have K := Below.refl w.heap.size w
  cases ge <;> cases th <;> simp only [if_true, if_false, Bool.false_eq_true] at hge HA2 <;> obtain ⟨hg1, hg2⟩ := hge <;> (try subst hg2)
  all_goals (
    go_enter Try.func4, Try.ntmps4
    go_wp2_with (first
      | (go_at_call 9; (with_reducible refine (placed_any _).mono ?_); rintro e wa ⟨rfl, hb⟩; ((try (replace B1 := B1.on hb; replace c1 := B1.one; replace q1 := B1.lt; replace h1 := h1.on hb)); (try (replace B2 := B2.on hb; replace c2 := B2.one; replace q2 := B2.lt; replace h2 := h2.on hb)); (try (replace B3 := B3.on hb; replace c3 := B3.one; replace q3 := B3.lt; replace h3 := h3.on hb)); (try (replace B4 := B4.on hb; replace c4 := B4.one; replace q4 := B4.lt; replace h4 := h4.on hb)); (try (replace B5 := B5.on hb; replace c5 := B5.one; replace q5 := B5.lt; replace h5 := h5.on hb)); (try (replace B6 := B6.on hb; replace c6 := B6.one; replace q6 := B6.lt; replace h6 := h6.on hb)); (try (replace B7 := B7.on hb; replace c7 := B7.one; replace q7 := B7.lt; replace h7 := h7.on hb)); replace K := K.trans ((hb).mono K.size)); clear hb)
      | (go_at_call 10; (with_reducible refine (O0 _ K).mono ?_); rintro e w1 ⟨⟨u, rfl, hu⟩, hb⟩; (obtain ⟨p1, rfl⟩ := hu.val); (have hz := (hb).alloc (hb).size (.cells #[.pointer p1] 30); ((try (replace B1 := B1.on hz; replace c1 := B1.one; replace q1 := B1.lt; replace h1 := h1.on hz)); (try (replace B2 := B2.on hz; replace c2 := B2.one; replace q2 := B2.lt; replace h2 := h2.on hz)); (try (replace B3 := B3.on hz; replace c3 := B3.one; replace q3 := B3.lt; replace h3 := h3.on hz)); (try (replace B4 := B4.on hz; replace c4 := B4.one; replace q4 := B4.lt; replace h4 := h4.on hz)); (try (replace B5 := B5.on hz; replace c5 := B5.one; replace q5 := B5.lt; replace h5 := h5.on hz)); (try (replace B6 := B6.on hz; replace c6 := B6.one; replace q6 := B6.lt; replace h6 := h6.on hz)); (try (replace B7 := B7.on hz; replace c7 := B7.one; replace q7 := B7.lt; replace h7 := h7.on hz)); replace K := K.trans ((hz).mono K.size)); have B1 := hp.Blk.new w1 [.pointer p1] 30; have h1 := (hu).on ((Below.refl _ _).alloc (Nat.le_refl _) (.cells #[.pointer p1] 30)); have c1 := B1.one; have q1 := B1.lt; clear hz hb hu))
      | (go_at_call 19; (with_reducible refine (HI _ _ h1).mono ?_); rintro e w2 ⟨⟨p2, rfl, hu⟩, hb⟩; (have hz := (hb).alloc (hb).size (.cells #[.pointer p2] 30); ((try (replace B1 := B1.on hz; replace c1 := B1.one; replace q1 := B1.lt; replace h1 := h1.on hz)); (try (replace B2 := B2.on hz; replace c2 := B2.one; replace q2 := B2.lt; replace h2 := h2.on hz)); (try (replace B3 := B3.on hz; replace c3 := B3.one; replace q3 := B3.lt; replace h3 := h3.on hz)); (try (replace B4 := B4.on hz; replace c4 := B4.one; replace q4 := B4.lt; replace h4 := h4.on hz)); (try (replace B5 := B5.on hz; replace c5 := B5.one; replace q5 := B5.lt; replace h5 := h5.on hz)); (try (replace B6 := B6.on hz; replace c6 := B6.one; replace q6 := B6.lt; replace h6 := h6.on hz)); (try (replace B7 := B7.on hz; replace c7 := B7.one; replace q7 := B7.lt; replace h7 := h7.on hz)); replace K := K.trans ((hz).mono K.size)); have B2 := hp.Blk.new w2 [.pointer p2] 30; have h2 := (hu).on ((Below.refl _ _).alloc (Nat.le_refl _) (.cells #[.pointer p2] 30)); have c2 := B2.one; have q2 := B2.lt; clear hz hb hu))
      | (go_at_call 13; (with_reducible refine (HD _ _ h2).mono ?_); rintro e w3 ⟨⟨p3, rfl, hu⟩, hb⟩; (have hz := (hb).alloc (hb).size (.cells #[.pointer p3] 30); ((try (replace B1 := B1.on hz; replace c1 := B1.one; replace q1 := B1.lt; replace h1 := h1.on hz)); (try (replace B2 := B2.on hz; replace c2 := B2.one; replace q2 := B2.lt; replace h2 := h2.on hz)); (try (replace B3 := B3.on hz; replace c3 := B3.one; replace q3 := B3.lt; replace h3 := h3.on hz)); (try (replace B4 := B4.on hz; replace c4 := B4.one; replace q4 := B4.lt; replace h4 := h4.on hz)); (try (replace B5 := B5.on hz; replace c5 := B5.one; replace q5 := B5.lt; replace h5 := h5.on hz)); (try (replace B6 := B6.on hz; replace c6 := B6.one; replace q6 := B6.lt; replace h6 := h6.on hz)); (try (replace B7 := B7.on hz; replace c7 := B7.one; replace q7 := B7.lt; replace h7 := h7.on hz)); replace K := K.trans ((hz).mono K.size)); have B3 := hp.Blk.new w3 [.pointer p3] 30; have h3 := (hu).on ((Below.refl _ _).alloc (Nat.le_refl _) (.cells #[.pointer p3] 30)); have c3 := B3.one; have q3 := B3.lt; clear hz hb hu))
      | (go_at_call 17; (with_reducible refine (I0 _ _ h3).mono ?_); rintro e w4 ⟨⟨u4, rfl, hi⟩, hb⟩; ((try (replace B1 := B1.on hb; replace c1 := B1.one; replace q1 := B1.lt; replace h1 := h1.on hb)); (try (replace B2 := B2.on hb; replace c2 := B2.one; replace q2 := B2.lt; replace h2 := h2.on hb)); (try (replace B3 := B3.on hb; replace c3 := B3.one; replace q3 := B3.lt; replace h3 := h3.on hb)); (try (replace B4 := B4.on hb; replace c4 := B4.one; replace q4 := B4.lt; replace h4 := h4.on hb)); (try (replace B5 := B5.on hb; replace c5 := B5.one; replace q5 := B5.lt; replace h5 := h5.on hb)); (try (replace B6 := B6.on hb; replace c6 := B6.one; replace q6 := B6.lt; replace h6 := h6.on hb)); (try (replace B7 := B7.on hb; replace c7 := B7.one; replace q7 := B7.lt; replace h7 := h7.on hb)); replace K := K.trans ((hb).mono K.size)); clear hb)
      | (go_at_call 16; (with_reducible refine (S0 _ _ K hi).mono ?_); rintro e w5 ⟨rfl, hb⟩; ((try (replace B1 := B1.on hb; replace c1 := B1.one; replace q1 := B1.lt; replace h1 := h1.on hb)); (try (replace B2 := B2.on hb; replace c2 := B2.one; replace q2 := B2.lt; replace h2 := h2.on hb)); (try (replace B3 := B3.on hb; replace c3 := B3.one; replace q3 := B3.lt; replace h3 := h3.on hb)); (try (replace B4 := B4.on hb; replace c4 := B4.one; replace q4 := B4.lt; replace h4 := h4.on hb)); (try (replace B5 := B5.on hb; replace c5 := B5.one; replace q5 := B5.lt; replace h5 := h5.on hb)); (try (replace B6 := B6.on hb; replace c6 := B6.one; replace q6 := B6.lt; replace h6 := h6.on hb)); (try (replace B7 := B7.on hb; replace c7 := B7.one; replace q7 := B7.lt; replace h7 := h7.on hb)); replace K := K.trans ((hb).mono K.size)); clear hb hi)
      | (go_at_call 11; (with_reducible refine (HA1 _ _ h1).mono ?_); rintro e w6 ⟨rfl, hb⟩; ((try (replace B1 := B1.on hb; replace c1 := B1.one; replace q1 := B1.lt; replace h1 := h1.on hb)); (try (replace B2 := B2.on hb; replace c2 := B2.one; replace q2 := B2.lt; replace h2 := h2.on hb)); (try (replace B3 := B3.on hb; replace c3 := B3.one; replace q3 := B3.lt; replace h3 := h3.on hb)); (try (replace B4 := B4.on hb; replace c4 := B4.one; replace q4 := B4.lt; replace h4 := h4.on hb)); (try (replace B5 := B5.on hb; replace c5 := B5.one; replace q5 := B5.lt; replace h5 := h5.on hb)); (try (replace B6 := B6.on hb; replace c6 := B6.one; replace q6 := B6.lt; replace h6 := h6.on hb)); (try (replace B7 := B7.on hb; replace c7 := B7.one; replace q7 := B7.lt; replace h7 := h7.on hb)); replace K := K.trans ((hb).mono K.size)); clear hb)
      | (go_at_call 11; (with_reducible refine (HA3 _ _ h2).mono ?_); rintro e w8 ⟨rfl, hb⟩; ((try (replace B1 := B1.on hb; replace c1 := B1.one; replace q1 := B1.lt; replace h1 := h1.on hb)); (try (replace B2 := B2.on hb; replace c2 := B2.one; replace q2 := B2.lt; replace h2 := h2.on hb)); (try (replace B3 := B3.on hb; replace c3 := B3.one; replace q3 := B3.lt; replace h3 := h3.on hb)); (try (replace B4 := B4.on hb; replace c4 := B4.one; replace q4 := B4.lt; replace h4 := h4.on hb)); (try (replace B5 := B5.on hb; replace c5 := B5.one; replace q5 := B5.lt; replace h5 := h5.on hb)); (try (replace B6 := B6.on hb; replace c6 := B6.one; replace q6 := B6.lt; replace h6 := h6.on hb)); (try (replace B7 := B7.on hb; replace c7 := B7.one; replace q7 := B7.lt; replace h7 := h7.on hb)); replace K := K.trans ((hb).mono K.size)); clear hb)
      | (go_at_call 11; (with_reducible refine (HA2 _ _ h2).mono ?_); rintro e w7 ⟨rfl, hb⟩; ((try (replace B1 := B1.on hb; replace c1 := B1.one; replace q1 := B1.lt; replace h1 := h1.on hb)); (try (replace B2 := B2.on hb; replace c2 := B2.one; replace q2 := B2.lt; replace h2 := h2.on hb)); (try (replace B3 := B3.on hb; replace c3 := B3.one; replace q3 := B3.lt; replace h3 := h3.on hb)); (try (replace B4 := B4.on hb; replace c4 := B4.one; replace q4 := B4.lt; replace h4 := h4.on hb)); (try (replace B5 := B5.on hb; replace c5 := B5.one; replace q5 := B5.lt; replace h5 := h5.on hb)); (try (replace B6 := B6.on hb; replace c6 := B6.one; replace q6 := B6.lt; replace h6 := h6.on hb)); (try (replace B7 := B7.on hb; replace c7 := B7.one; replace q7 := B7.lt; replace h7 := h7.on hb)); replace K := K.trans ((hb).mono K.size)); clear hb)
      | (go_at_call 23; (with_reducible refine (HL _ _ h2).mono ?_); rintro e w9 ⟨rfl, hb⟩; ((try (replace B1 := B1.on hb; replace c1 := B1.one; replace q1 := B1.lt; replace h1 := h1.on hb)); (try (replace B2 := B2.on hb; replace c2 := B2.one; replace q2 := B2.lt; replace h2 := h2.on hb)); (try (replace B3 := B3.on hb; replace c3 := B3.one; replace q3 := B3.lt; replace h3 := h3.on hb)); (try (replace B4 := B4.on hb; replace c4 := B4.one; replace q4 := B4.lt; replace h4 := h4.on hb)); (try (replace B5 := B5.on hb; replace c5 := B5.one; replace q5 := B5.lt; replace h5 := h5.on hb)); (try (replace B6 := B6.on hb; replace c6 := B6.one; replace q6 := B6.lt; replace h6 := h6.on hb)); (try (replace B7 := B7.on hb; replace c7 := B7.one; replace q7 := B7.lt; replace h7 := h7.on hb)); replace K := K.trans ((hb).mono K.size)); clear hb))
    go_ret
    exact ⟨rfl, K⟩)

set_option maxRecDepth 100000 in
set_option maxHeartbeats 16000000 in
theorem walk_no (v0 : Value) (l0 : List Int) (i x k : Int) (w : World) (i0 : hp.IsInts w w.heap.size v0 l0) (bd : l0.length ≤ 17592186043904) (hi : i < 0 ∨ (l0.length : Int) < i) :
    Calls Try.prog 4 #[v0, .int .i64 i, .int .i64 x, .int .i64 k] w fun e w' => e = .returned (.bool true) ∧ Below w.heap.size w w' := by
  have O0 := fun W (K : Below w.heap.size w W) => sOf v0 l0 W (i0.on K) (by omega)
  have HI := fun W u (h : IsT W u l0) => ins_no (i := i) (x := x) h hi
  obtain ⟨z0, c0, rfl, -⟩ := i0
  obtain ⟨n, hn⟩ : ∃ n, l0.length = n := ⟨_, rfl⟩
  simp only [hn] at O0 HI bd hi ⊢
  clear hn
  have K := Below.refl w.heap.size w
  by_cases h0 : i < 0
  all_goals (
    (try (have h0' : (n : Int) < i := by omega))
    clear hi
    go_enter Try.func4, Try.ntmps4
    go_wp2_with (first
      | (go_at_call 9; (with_reducible refine (placed_any _).mono ?_); rintro e wa ⟨rfl, hb⟩; ((try (replace B1 := B1.on hb; replace c1 := B1.one; replace q1 := B1.lt; replace h1 := h1.on hb)); (try (replace B2 := B2.on hb; replace c2 := B2.one; replace q2 := B2.lt; replace h2 := h2.on hb)); (try (replace B3 := B3.on hb; replace c3 := B3.one; replace q3 := B3.lt; replace h3 := h3.on hb)); (try (replace B4 := B4.on hb; replace c4 := B4.one; replace q4 := B4.lt; replace h4 := h4.on hb)); (try (replace B5 := B5.on hb; replace c5 := B5.one; replace q5 := B5.lt; replace h5 := h5.on hb)); (try (replace B6 := B6.on hb; replace c6 := B6.one; replace q6 := B6.lt; replace h6 := h6.on hb)); (try (replace B7 := B7.on hb; replace c7 := B7.one; replace q7 := B7.lt; replace h7 := h7.on hb)); replace K := K.trans ((hb).mono K.size)); clear hb)
      | (go_at_call 10; (with_reducible refine (O0 _ K).mono ?_); rintro e w1 ⟨⟨u, rfl, hu⟩, hb⟩; (obtain ⟨p1, rfl⟩ := hu.val); (have hz := (hb).alloc (hb).size (.cells #[.pointer p1] 30); ((try (replace B1 := B1.on hz; replace c1 := B1.one; replace q1 := B1.lt; replace h1 := h1.on hz)); (try (replace B2 := B2.on hz; replace c2 := B2.one; replace q2 := B2.lt; replace h2 := h2.on hz)); (try (replace B3 := B3.on hz; replace c3 := B3.one; replace q3 := B3.lt; replace h3 := h3.on hz)); (try (replace B4 := B4.on hz; replace c4 := B4.one; replace q4 := B4.lt; replace h4 := h4.on hz)); (try (replace B5 := B5.on hz; replace c5 := B5.one; replace q5 := B5.lt; replace h5 := h5.on hz)); (try (replace B6 := B6.on hz; replace c6 := B6.one; replace q6 := B6.lt; replace h6 := h6.on hz)); (try (replace B7 := B7.on hz; replace c7 := B7.one; replace q7 := B7.lt; replace h7 := h7.on hz)); replace K := K.trans ((hz).mono K.size)); have B1 := hp.Blk.new w1 [.pointer p1] 30; have h1 := (hu).on ((Below.refl _ _).alloc (Nat.le_refl _) (.cells #[.pointer p1] 30)); have c1 := B1.one; have q1 := B1.lt; clear hz hb hu))
      | (go_at_call 19; (with_reducible refine (HI _ _ h1).mono ?_); rintro e w2 ⟨⟨p2, rfl, hu⟩, hb⟩; (have hz := (hb).alloc (hb).size (.cells #[.pointer p2] 30); ((try (replace B1 := B1.on hz; replace c1 := B1.one; replace q1 := B1.lt; replace h1 := h1.on hz)); (try (replace B2 := B2.on hz; replace c2 := B2.one; replace q2 := B2.lt; replace h2 := h2.on hz)); (try (replace B3 := B3.on hz; replace c3 := B3.one; replace q3 := B3.lt; replace h3 := h3.on hz)); (try (replace B4 := B4.on hz; replace c4 := B4.one; replace q4 := B4.lt; replace h4 := h4.on hz)); (try (replace B5 := B5.on hz; replace c5 := B5.one; replace q5 := B5.lt; replace h5 := h5.on hz)); (try (replace B6 := B6.on hz; replace c6 := B6.one; replace q6 := B6.lt; replace h6 := h6.on hz)); (try (replace B7 := B7.on hz; replace c7 := B7.one; replace q7 := B7.lt; replace h7 := h7.on hz)); replace K := K.trans ((hz).mono K.size)); have B2 := hp.Blk.new w2 [.pointer p2] 30; have h2 := (hu).on ((Below.refl _ _).alloc (Nat.le_refl _) (.cells #[.pointer p2] 30)); have c2 := B2.one; have q2 := B2.lt; clear hz hb hu)))
    go_ret
    exact ⟨rfl, K⟩)

section
variable {l : List Int} {i : Nat} {x : Int}
theorem put_len (hi : i ≤ l.length) : (l.take i ++ x :: l.drop i).length = l.length + 1 := by
  simp
  omega
theorem put_at (hi : i ≤ l.length) : (l.take i ++ x :: l.drop i).getD i 0 = x := by
  have e : (l.take i).length = i := by simp; omega
  rw [List.getD_eq_getElem?_getD, List.getElem?_append_right (by omega), e]
  simp
theorem put_lt {k : Nat} (hi : i ≤ l.length) (hk : k < i) : (l.take i ++ x :: l.drop i).getD k 0 = l.getD k 0 := by
  have e : (l.take i).length = i := by simp; omega
  rw [List.getD_eq_getElem?_getD, List.getElem?_append_left (by omega), List.getElem?_take, if_pos hk, ← List.getD_eq_getElem?_getD]
theorem put_gt {k : Nat} (hi : i ≤ l.length) (hk : i ≤ k) : (l.take i ++ x :: l.drop i).getD (k + 1) 0 = l.getD k 0 := by
  have e : (l.take i).length = i := by simp; omega
  rw [List.getD_eq_getElem?_getD, List.getElem?_append_right (by omega), e, show k + 1 - i = (k - i) + 1 by omega, List.getElem?_cons_succ, List.getElem?_drop, show i + (k - i) = k by omega, ← List.getD_eq_getElem?_getD]
theorem put_drop (hi : i ≤ l.length) : l.take i ++ x :: l.drop i = l.take i ++ x :: l.drop i ∧ (l.take i).length = i := ⟨rfl, by simp; omega⟩
end

theorem walk (v0 : Value) (l0 : List Int) (i x k : Int) (w : World) (i0 : hp.IsInts w w.heap.size v0 l0) (w1 : (Lit.int .i64 i).wf = true) (w2 : (Lit.int .i64 x).wf = true) (w3 : (Lit.int .i64 k).wf = true) (bd : l0.length ≤ 17592186043904) :
    Calls Try.prog 4 #[v0, .int .i64 i, .int .i64 x, .int .i64 k] w fun e w' => e = .returned (.bool true) ∧ Below w.heap.size w w' := by
  by_cases hi : 0 ≤ i ∧ i ≤ l0.length
  case neg => exact walk_no v0 l0 i x k w i0 bd (by omega)
  obtain ⟨a, rfl⟩ := Int.eq_ofNat_of_zero_le hi.1
  have ha : a ≤ l0.length := by omega
  have hl : (l0.take a).length = a := by simp; omega
  have hTl := put_len (x := x) ha
  have hk : -9223372036854775808 ≤ k ∧ k ≤ 9223372036854775807 := by have h := w3; simp [Lit.wf] at h; exact ⟨h.1, h.2⟩
  have HI := fun W u (h : IsT W u l0) => ins_yes (R := l0.take a ++ x :: l0.drop a) h (List.take_append_drop a l0) hl rfl w2 (by omega)
  have HD := fun W u (h : IsT W u (l0.take a ++ x :: l0.drop a)) => del_yes h rfl hl (List.take_append_drop a l0) (by omega)
  have HA3 := fun W u (h : IsT W u (l0.take a ++ x :: l0.drop a)) => at_yes (k := a) h (by omega) (by omega)
  have HL := fun W u (h : IsT W u (l0.take a ++ x :: l0.drop a)) => sLen h
  simp only [put_at ha, hTl, Int.natCast_add, Int.natCast_one] at HA3 HL
  by_cases hge : (a : Int) ≤ k
  · by_cases hlt : k < l0.length
    · obtain ⟨b, rfl⟩ := Int.eq_ofNat_of_zero_le (show 0 ≤ k by omega)
      have HA2 := fun W u (h : IsT W u (l0.take a ++ x :: l0.drop a)) => at_yes (k := b + 1) h (by omega) (by omega)
      simp only [put_gt ha (show a ≤ b by omega)] at HA2
      exact walk_of v0 l0 _ _ a x b ((b + 1 : Nat) : Int) (l0.getD b 0) 0 true true w i0 bd HI HD (fun W u h => at_yes h (by omega) (by omega)) HA2 HA3 HL rfl ⟨hge, by rw [IntWalk.wrap64_in _ ⟨by omega, by omega⟩]; omega⟩
    · have hm : wrap64 (k + 1) < 0 ∨ (l0.length : Int) + 1 ≤ wrap64 (k + 1) := by
        by_cases e : k = 9223372036854775807
        · subst e
          exact .inl (by unfold wrap64; omega)
        · rw [IntWalk.wrap64_in _ ⟨by omega, by omega⟩]
          omega
      exact walk_of v0 l0 _ _ a x k (wrap64 (k + 1)) 0 0 true false w i0 bd HI HD (fun W u h => at_no h (by omega)) (fun W u h => at_no h (by omega)) HA3 HL rfl ⟨hge, rfl⟩
  · by_cases h0 : 0 ≤ k
    · obtain ⟨b, rfl⟩ := Int.eq_ofNat_of_zero_le h0
      have HA2 := fun W u (h : IsT W u (l0.take a ++ x :: l0.drop a)) => at_yes (k := b) h (by omega) (by omega)
      simp only [put_lt ha (show b < a by omega)] at HA2
      exact walk_of v0 l0 _ _ a x b b (l0.getD b 0) 0 false true w i0 bd HI HD (fun W u h => at_yes h (by omega) (by omega)) HA2 HA3 HL rfl ⟨hge, rfl⟩
    · exact walk_of v0 l0 _ _ a x k k 0 0 false false w i0 bd HI HD (fun W u h => at_no h (by omega)) (fun W u h => at_no h (by omega)) HA3 HL rfl ⟨hge, rfl⟩
end Go.Proofs.Ytkenocamlaaajaa.seqEdits
