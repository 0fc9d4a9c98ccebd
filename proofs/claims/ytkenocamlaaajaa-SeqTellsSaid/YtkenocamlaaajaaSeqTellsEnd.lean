/- SeqTells: the cases together. -/
import Derived.Test.YtkenocamlaaajaaSeqTellsWalk
namespace Go.Proofs.Ytkenocamlaaajaa.seqTells
open Go Go.RowKit Go.Proofs.Ytkenocamlaaajaa.fin Go.Proofs.Ytkenocamlaaajaa.mono
set_option linter.unusedVariables false

theorem set_parts {L : List Int} {k : Nat} (hk : k < L.length) (x : Int) : L.take k ++ x :: L.drop (k + 1) = L.set k x := by
  rw [List.set_eq_take_append_cons_drop, if_pos hk]

attribute [-go_sem] sliced in
theorem walk (v0 : Value) (l0 : List Int) (i j x : Int) (w : World) (i0 : hp.IsInts w w.heap.size v0 l0) (w1 : (Lit.int .i64 i).wf = true) (w2 : (Lit.int .i64 j).wf = true) (w3 : (Lit.int .i64 x).wf = true) (bd : l0.length ≤ 17592186043904) :
    Calls Try.prog 3 #[v0, .int .i64 i, .int .i64 j, .int .i64 x] w fun e w' => e = .returned (.bool true) ∧ Below w.heap.size w w' := by
  have j0 := i0
  obtain ⟨z0, c0, rfl, hcap, -, -, hc⟩ := j0
  have Z0 := fun W (K : Below w.heap.size w W) => i0.on K
  have hb0 : l0.length ≤ 4611686018427387900 := by omega
  by_cases hA : 0 ≤ i ∧ i < l0.length
  · obtain ⟨a, rfl⟩ := Int.eq_ofNat_of_zero_le hA.1
    have ha : a < l0.length := by omega
    obtain ⟨p1, p2⟩ := split_at ha
    have HA := fun W u (h : IsT W u l0) => at_yes h ha (by omega)
    have HS := fun W u (h : IsT W u l0) => set_yes h p1 p2 (set_parts ha x) w3 (by omega)
    have HD := fun W u (h : IsT W u l0) => del_yes h p1 p2 rfl (by omega)
    have HI := fun W u (h : IsT W u l0) => ins_yes (R := same.put l0 a x) h (List.take_append_drop a l0) p2 rfl w3 hb0
    have RP := fun W (K : Below w.heap.size w W) => same.set_any (x := x) (i0.on K) ha w3 (by omega)
    have RW := fun W (K : Below w.heap.size w W) => same.without_any (i0.on K) ha (by omega)
    have RI := fun W (K : Below w.heap.size w W) => same.with_any (x := x) (i0.on K) (Nat.le_of_lt ha) w3 (by omega)
    have C0 : ∀ W, Below w.heap.size w W → ∃ b o, z0 = some ⟨b, o, none⟩ ∧ b < W.heap.size ∧ W.cell? ⟨b, o + a, none⟩ = some (.int .i64 (l0.getD a 0)) := by
      intro W K
      obtain ⟨b, o, e, hb, hcell⟩ := hc (by omega)
      exact ⟨b, o, e, by have := K.size; omega, (K.cell (p := ⟨b, o + a, none⟩) hb).trans (hcell a ha)⟩
    have nS : (l0.set a x).length ≤ 17592186044416 := by rw [List.length_set]; omega
    have nD : (l0.take a ++ l0.drop (a + 1)).length ≤ 17592186044416 := by simp; omega
    have nI : (same.put l0 a x).length ≤ 17592186044416 := by rw [same.put_len]; omega
    by_cases hR : (a : Int) ≤ j ∧ j ≤ l0.length
    · obtain ⟨b, rfl⟩ := Int.eq_ofNat_of_zero_le (show 0 ≤ j by omega)
      have hab : a ≤ b := by omega
      have hb : b ≤ l0.length := by omega
      have HC := fun W u (h : IsT W u l0) => slice_yes h hab hb rfl hb0
      have HM := fun W u (h : IsT W u l0) => meas_yes h hab hb rfl hb0
      have RR := fun W (K : Below w.heap.size w W) => (i0.on K).sliced hab hb
      have RM := fun W (K : Below w.heap.size w W) => ref.measureOf_any _ _ W (RR W K)
      exact walk_ttt z0 c0 l0.length l0 _ _ _ _ a b x _ _ _ _ _ _ w bd hcap.2 rfl HA HS HD HI HC HM nS nD nI (by simp; omega) Z0 RP RW C0 RI RR RM hab hb ha
    · have hn : (a : Int) < 0 ∨ j < a ∨ (l0.length : Int) < j := by omega
      exact walk_ttf z0 c0 l0.length l0 _ _ _ _ a j x _ w bd hcap.2 rfl HA HS HD HI (fun W u h => slice_no h hn) (fun W u h => meas_no h hn) nS nD nI (by simp) Z0 RP RW C0 RI rfl ha (by omega)
  · have hA' : i < 0 ∨ (l0.length : Int) ≤ i := by omega
    by_cases hD : i = l0.length
    · subst hD
      have HI := fun W u (h : IsT W u l0) => ins_yes (k := l0.length) (X := l0.take l0.length) (Y := l0.drop l0.length) (R := same.put l0 l0.length x) h (List.take_append_drop l0.length l0) (by simp) rfl w3 hb0
      have RI := fun W (K : Below w.heap.size w W) => same.with_any (x := x) (i0.on K) (Nat.le_refl _) w3 (by omega)
      have nI : (same.put l0 l0.length x).length ≤ 17592186044416 := by rw [same.put_len]; omega
      by_cases hR : j = l0.length
      · subst hR
        have HC := fun W u (h : IsT W u l0) => slice_yes h (Nat.le_refl l0.length) (Nat.le_refl _) rfl hb0
        have HM := fun W u (h : IsT W u l0) => meas_yes h (Nat.le_refl l0.length) (Nat.le_refl _) rfl hb0
        have RR := fun W (K : Below w.heap.size w W) => (i0.on K).sliced (Nat.le_refl l0.length) (Nat.le_refl _)
        have RM := fun W (K : Below w.heap.size w W) => ref.measureOf_any _ _ W (RR W K)
        exact walk_ftt z0 c0 l0.length l0 _ _ _ _ l0.length l0.length x _ _ _ _ _ _ w bd hcap.2 rfl (fun W u h => at_no h hA') (fun W u h => set_no h hA') (fun W u h => del_no h hA') HI HC HM (by simp) (by simp) nI (by simp) Z0 rfl rfl rfl RI RR RM (Nat.le_refl _) (Nat.le_refl _) rfl
      · have hn : (l0.length : Int) < 0 ∨ j < l0.length ∨ (l0.length : Int) < j := by omega
        exact walk_ftf z0 c0 l0.length l0 _ _ _ _ l0.length j x _ w bd hcap.2 rfl (fun W u h => at_no h hA') (fun W u h => set_no h hA') (fun W u h => del_no h hA') HI (fun W u h => slice_no h hn) (fun W u h => meas_no h hn) (by simp) (by simp) nI (by simp) Z0 rfl rfl rfl RI rfl rfl (by omega)
    · have hD' : i < 0 ∨ (l0.length : Int) < i := by omega
      have hn : i < 0 ∨ j < i ∨ (l0.length : Int) < j := by omega
      exact walk_fff z0 c0 l0.length l0 _ _ _ _ i j x _ w bd hcap.2 rfl (fun W u h => at_no h hA') (fun W u h => set_no h hA') (fun W u h => del_no h hA') (fun W u h => ins_no h hD') (fun W u h => slice_no h hn) (fun W u h => meas_no h hn) (by simp) (by simp) (by simp) (by simp) Z0 rfl rfl rfl rfl rfl hD' hn
end Go.Proofs.Ytkenocamlaaajaa.seqTells
