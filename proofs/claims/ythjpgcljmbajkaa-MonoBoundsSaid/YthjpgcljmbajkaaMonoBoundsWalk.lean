/- The walk of MonoBounds. -/
import Derived.Test.YthjpgcljmbajkaaMono
import Derived.Handy
namespace Go.Proofs.Ythjpgcljmbajkaa.monoBounds
open Go.RowKit mono

theorem of53 (w : World) (g : Nat) (hg : g < w.heap.size) (h0 : w.cell? ⟨g, 0, none⟩ = some (.int .i64 5)) (h1 : w.cell? ⟨g, 1, none⟩ = some (.int .i64 3)) :
    Calls Try.prog 10 #[.slice (some ⟨g, 0, none⟩) 2 2] w fun e w' => e = .returned (mv 2 8 3 5 790) ∧ Below w.heap.size w w' := by
  refine (of_any _ [5, 3] w ⟨_, _, rfl, by simp, by decide, fun _ => ⟨g, 0, rfl, hg, fun k hk => ?_⟩⟩).mono fun e w' h => ⟨by rw [h.1]; simp [sumOf, lstOf, mstOf, hashOf, wrap64]; omega, h.2⟩
  match k, hk with
  | 0, _ => simpa using h0
  | 1, _ => simpa using h1

/-- no number is below the least, none above the greatest; both are there -/
theorem lst_le (l : List Int) : ∀ (m : Int), l.foldl min m ≤ m ∧ (∀ x ∈ l, l.foldl min m ≤ x) ∧ (l.foldl min m = m ∨ l.foldl min m ∈ l) := by
  induction l with
  | nil => intro m; simp
  | cons x l ih =>
    intro m
    obtain ⟨h1, h2, h3⟩ := ih (min m x)
    simp only [List.foldl_cons, List.mem_cons]
    refine ⟨by omega, fun y hy => ?_, ?_⟩
    · rcases hy with rfl | hy
      · omega
      · exact h2 y hy
    · rcases h3 with h3 | h3
      · by_cases hm : m ≤ x
        · left; omega
        · right; left; omega
      · exact .inr (.inr h3)
theorem mst_le (l : List Int) : ∀ (m : Int), m ≤ l.foldl max m ∧ (∀ x ∈ l, x ≤ l.foldl max m) ∧ (l.foldl max m = m ∨ l.foldl max m ∈ l) := by
  induction l with
  | nil => intro m; simp
  | cons x l ih =>
    intro m
    obtain ⟨h1, h2, h3⟩ := ih (max m x)
    simp only [List.foldl_cons, List.mem_cons]
    refine ⟨by omega, fun y hy => ?_, ?_⟩
    · rcases hy with rfl | hy
      · omega
      · exact h2 y hy
    · rcases h3 with h3 | h3
      · by_cases hm : m ≤ x
        · right; left; omega
        · left; omega
      · exact .inr (.inr h3)
theorem lst_mem {l : List Int} (hw : ∀ x ∈ l, (Lit.int .i64 x).wf = true) (hl : l ≠ []) : lstOf l ∈ l := by
  obtain ⟨_, h2, h3⟩ := lst_le l 9223372036854775807
  rcases h3 with h3 | h3
  · match l, hl with
    | x :: l, _ =>
      have h4 := h2 x (by simp)
      have h5 := hw x (by simp)
      simp [Lit.wf, IntKind.min, IntKind.max, IntKind.signed, IntKind.bits] at h5
      have : lstOf (x :: l) = x := by unfold lstOf; omega
      rw [this]; simp
  · exact h3
theorem mst_mem {l : List Int} (hw : ∀ x ∈ l, (Lit.int .i64 x).wf = true) (hl : l ≠ []) : mstOf l ∈ l := by
  obtain ⟨_, h2, h3⟩ := mst_le l (-9223372036854775808)
  rcases h3 with h3 | h3
  · match l, hl with
    | x :: l, _ =>
      have h4 := h2 x (by simp)
      have h5 := hw x (by simp)
      simp [Lit.wf, IntKind.min, IntKind.max, IntKind.signed, IntKind.bits] at h5
      have : mstOf (x :: l) = x := by unfold mstOf; omega
      rw [this]; simp
  · exact h3

theorem hash_bd (l : List Int) : 0 ≤ hashOf l ∧ hashOf l < 2147483647 := by
  unfold hashOf
  suffices H : ∀ h : Int, 0 ≤ h → h < 2147483647 → 0 ≤ l.foldl (fun h x => (h * 131 + (x % 2147483647 + 1)) % 2147483647) h ∧ l.foldl (fun h x => (h * 131 + (x % 2147483647 + 1)) % 2147483647) h < 2147483647 from H 0 (by omega) (by omega)
  induction l with
  | nil => intro h h1 h2; exact ⟨h1, h2⟩
  | cons x l ih => intro h h1 h2; exact ih _ (by simp only []; omega) (by simp only []; omega)

theorem bool_cases (b : Bool) : b = true ∨ b = false := by cases b <;> simp

theorem rel_step {l : List Int} {k : Nat} {x : Int} {bl bh e1 e2 : Bool} {X : World} {n : Nat} (Hl : bl = decide (lstOf l ∈ l.take k)) (Hh : bh = decide (mstOf l ∈ l.take k)) (hs : l.take (k + 1) = l.take k ++ [x])
    (h1 : (x == lstOf l) = e1) (h2 : (x == mstOf l) = e2) (hk : k + 1 ≤ l.length) :
    ∃ k' : Nat, ∃ bl' bh' : Bool, k' ≤ l.length ∧ Value.bool (bl || e1) = .bool bl' ∧ Value.bool (bh || e2) = .bool bh' ∧ Value.int .i64 ((k : Int) + 1) = .int .i64 k' ∧ Hid (bl' = decide (lstOf l ∈ l.take k')) ∧ Hid (bh' = decide (mstOf l ∈ l.take k')) ∧ ∃ m, World.drewN X n = World.drewN X m := by
  refine ⟨k + 1, _, _, hk, rfl, rfl, by go_num, ?_, ?_, n, rfl⟩
  · show _ = _
    rw [hs, Hl, ← h1, Bool.eq_iff_iff]
    simp only [Bool.or_eq_true, decide_eq_true_eq, beq_iff_eq, List.mem_append, List.mem_singleton]
    exact or_congr Iff.rfl ⟨Eq.symm, Eq.symm⟩
  · show _ = _
    rw [hs, Hh, ← h2, Bool.eq_iff_iff]
    simp only [Bool.or_eq_true, decide_eq_true_eq, beq_iff_eq, List.mem_append, List.mem_singleton]
    exact or_congr Iff.rfl ⟨Eq.symm, Eq.symm⟩

set_option maxHeartbeats 8000000 in
theorem walk (v : Value) (l : List Int) (w : World) (hv : hp.IsInts w w.heap.size v l) :
    Calls Try.prog 5 #[v] w fun e w' => e = .returned (.bool true) ∧ Below w.heap.size w w' := by
  have hv' := hv
  obtain ⟨a, cap, rfl, hm, hwf, hc⟩ := hv
  go_enter Try.func5, Try.ntmps5
  go_wp2_with fail
  refine (of53 _ w.heap.size (by simp) (by simp) (by simp)).mono ?_
  rintro e w1 ⟨rfl, hb1⟩
  have hz1 := hb1.size
  simp only [World.size_alloc] at hz1
  have hw1 : Below w.heap.size w w1 := by
    ((repeat' (first | with_reducible exact Below.refl _ _ | with_reducible apply Below.setCell | with_reducible apply below_drewN | with_reducible apply Below.drew | with_reducible apply Below.alloc | with_reducible refine Below.trans ?_ (Below.mono (by assumption) ?_))) <;> (first | (simp; done) | (simp; omega) | omega))
  clear hb1
  go_wp2_with fail
  refine (of_any _ l _ ((hv'.below (show Below w.heap.size w _ by ((repeat' (first | with_reducible exact Below.refl _ _ | with_reducible apply Below.setCell | with_reducible apply below_drewN | with_reducible apply Below.drew | with_reducible apply Below.alloc | with_reducible refine Below.trans ?_ (Below.mono (by assumption) ?_))) <;> (first | (simp; done) | (simp; omega) | omega)))).mono (by simp; omega))).mono ?_
  rintro e w2 ⟨rfl, hb2⟩
  have hz2 := hb2.size
  simp only [World.size_alloc] at hz2
  have hw2 : Below w.heap.size w w2 := by
    ((repeat' (first | with_reducible exact Below.refl _ _ | with_reducible apply Below.setCell | with_reducible apply below_drewN | with_reducible apply Below.drew | with_reducible apply Below.alloc | with_reducible refine Below.trans ?_ (Below.mono (by assumption) ?_))) <;> (first | (simp; done) | (simp; omega) | omega))
  clear hb2 hw1
  go_wp2_with fail
  have hhash := hash_bd l
  have hxs : ∀ k, k < l.length → lstOf l ≤ l.getD k 0 ∧ l.getD k 0 ≤ mstOf l := fun k hk => by
    have hmem : l.getD k 0 ∈ l := by simp [List.getElem?_eq_getElem hk]
    exact ⟨(lst_le l _).2.1 _ hmem, (mst_le l _).2.1 _ hmem⟩
  have Hx := Lib.hid hxs
  clear hxs
  go_loopw [5, 6, 7] (fun lo hi i wr => ∃ k : Nat, ∃ bl bh : Bool, k ≤ l.length ∧ lo = .bool bl ∧ hi = .bool bh ∧ i = .int .i64 k ∧ Hid (bl = decide (lstOf l ∈ l.take k)) ∧ Hid (bh = decide (mstOf l ∈ l.take k)) ∧ ∃ n, wr = World.drewN (w2.alloc (Obj.cells #[Value.int IntKind.i64 ↑l.length, Value.int IntKind.i64 (sumOf l), Value.int IntKind.i64 (lstOf l), Value.int IntKind.i64 (mstOf l), Value.int IntKind.i64 (hashOf l)] 24)) n) (fun _ _ i _ => l.length - (intOf i).toNat)
  case atStart => exact ⟨0, false, false, by omega, rfl, rfl, rfl, by show _ = _; simp, by show _ = _; simp, 0, rfl⟩
  case round =>
    obtain ⟨k, bl, bh, hk, rfl, rfl, rfl, Hl, Hh, n, rfl⟩ := hrel
    by_cases hlt : k < l.length
    · obtain ⟨b, off, rfl, hb, hcell⟩ := hc (by omega)
      have hcx : w2.cell? ⟨b, off + k, none⟩ = some (.int .i64 (l.getD k 0)) := (hw2.cell (by simpa using hb)).trans (hcell k hlt)
      have hbs : b < w2.heap.size := by omega
      obtain ⟨x1, x2⟩ := Hx.out k hlt
      clear hc hcell
      obtain ⟨x, hx⟩ : ∃ x, x = l.getD k 0 := ⟨_, rfl⟩
      rw [← hx] at hcx x1 x2
      have HX := Lib.hid hx
      clear hx
      have hs : l.take (k + 1) = l.take k ++ [x] := by rw [take_snoc l k hlt, HX.out]
      have Hs := Lib.hid hs
      clear hs
      rcases bool_cases (x == lstOf l) with e1 | e1 <;> rcases bool_cases (x == mstOf l) with e2 | e2 <;> cases bl <;> cases bh
      all_goals
        go_wp2_with fail
        go_quiet ((fail))
        go_wp2
        (refine reg.region_quiet_again (by kernel_rfl) (by kernel_rfl) ?_; (repeat (go_big_quiet_step ((fail)))); refine wpQuiet_nil ?_; intro _ hw'; obtain ⟨nq, hw''⟩ := hw'; subst hw'')
        go_wp2
        (refine reg.region_quiet_again (by kernel_rfl) (by kernel_rfl) ?_; (repeat (go_big_quiet_step ((fail)))); refine wpQuiet_nil ?_; intro _ hw'; obtain ⟨nq, hw''⟩ := hw'; subst hw'')
        go_wp2
        go_roundw
        case rel => exact rel_step Hl.out Hh.out Hs.out e1 e2 (by omega)
        case measure => simp [intOf]; omega
    · obtain rfl : k = l.length := by omega
      rw [List.take_length] at Hl Hh
      have hg0 : 0 ≤ hashOf l := hhash.1
      have hg1 : hashOf l < 2147483647 := hhash.2
      by_cases h0 : l = []
      · have hl0 : ((l.length : Int) == 0) = true := by simp [h0]
        go_wp2
        go_ret
        refine ⟨rfl, ?_⟩
        ((repeat' (first | with_reducible exact Below.refl _ _ | with_reducible apply Below.setCell | with_reducible apply below_drewN | with_reducible apply Below.drew | with_reducible apply Below.alloc | with_reducible refine Below.trans ?_ (Below.mono (by assumption) ?_))) <;> (first | (simp; done) | (simp; omega) | omega))
      · have hl0 : ((l.length : Int) == 0) = false := by simp; exact h0
        obtain rfl : bl = true := by rw [Hl.out]; simp [lst_mem hwf h0]
        obtain rfl : bh = true := by rw [Hh.out]; simp [mst_mem hwf h0]
        go_wp2
        go_ret
        refine ⟨rfl, ?_⟩
        ((repeat' (first | with_reducible exact Below.refl _ _ | with_reducible apply Below.setCell | with_reducible apply below_drewN | with_reducible apply Below.drew | with_reducible apply Below.alloc | with_reducible refine Below.trans ?_ (Below.mono (by assumption) ?_))) <;> (first | (simp; done) | (simp; omega) | omega))
end Go.Proofs.Ythjpgcljmbajkaa.monoBounds
