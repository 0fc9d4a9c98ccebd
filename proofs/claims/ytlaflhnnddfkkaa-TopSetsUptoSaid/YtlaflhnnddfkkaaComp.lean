/- slices.Compact at []int: the kit's contract, laid on this program; and on a row of the call's own. -/
import Derived.Test.YtlaflhnnddfkkaaChecked
import Derived.Test.YtlaflhnnddfkkaaHeap
import Derived.Test.YtlaflhnnddfkkaaSort
import Derived.Test.YtlaflhnnddfkkaaSch
import Derived.Shelf.SlicesG.CompactI
import Derived.Lib.OwnBridge
import Derived.Shelf.SortM.SortNone
namespace Go.Proofs.Ytlaflhnnddfkkaa.cmpt
open Go Go.RowKit

def lays_ren : Go.Shelf.Ren := ⟨fun | 43 => 68 | n => n, fun | 22 => 22 | 23 => 3 | 3 => 3 | 4 => 4 | 0 => 0 | n => n, fun | n => n⟩
theorem lays : Go.Proofs.SlLaysN.n43 Try.prog lays_ren := {
  mixed := by kernel_rfl,
  f43 := ⟨Try.f68.name, by decide, Try.func68.trans (congrArg some (by kernel_rfl))⟩,
  t0 := Try.underlying0,
  a0 := Try.isAgg0,
  z0 := Try.sizeOf0,
  v0 := Try.zeroValue0,
  t3 := Try.underlying3,
  a3 := Try.isAgg3,
  z3 := Try.sizeOf3,
  v3 := Try.zeroValue3,
  t4 := Try.underlying4,
  a4 := Try.isAgg4,
  z4 := Try.sizeOf4,
  v4 := Try.zeroValue4,
  t22 := Try.underlying22,
  a22 := Try.isAgg22,
  z22 := Try.sizeOf22,
  v22 := Try.zeroValue22,
  t23 := Try.underlying3,
  a23 := Try.isAgg3,
  z23 := Try.sizeOf3,
  v23 := Try.zeroValue3,
  i23 := by kernel_rfl }

/-- a rising list without the numbers that come again -/
theorem compact_uniq {s : List Int} (hs : s.Pairwise (· ≤ ·)) : Lib.compact s = sch.uniq s := by
  have key : ∀ m, m ≤ s.length → sch.Asc (Lib.compactUpTo s.toArray m) ∧ (∀ x, x ∈ Lib.compactUpTo s.toArray m ↔ x ∈ s.take m) := by
    intro m
    induction m with
    | zero => intro _; exact ⟨by simp [Lib.compactUpTo, sch.Asc], by simp [Lib.compactUpTo]⟩
    | succ m ih =>
      intro hm
      obtain ⟨h1, h2⟩ := ih (by omega)
      have hlt : m < s.length := by omega
      have e1 : s.toArray[m]! = s[m] := by simp [hlt]
      have e2 : s.take (m + 1) = s.take m ++ [s[m]] := by rw [List.take_succ_eq_append_getElem hlt]
      have hle : ∀ x ∈ s.take m, x ≤ s[m] := by
        have h3 : (s.take m ++ [s[m]]).Pairwise (· ≤ ·) := by rw [← e2]; exact hs.sublist (List.take_sublist _ _)
        intro x hx
        exact (List.pairwise_append.1 h3).2.2 x hx _ (by simp)
      rw [Lib.compactUpTo_succ, e1, e2]
      by_cases hk : Lib.keeps s.toArray m = true
      · rw [if_pos hk]
        have hne : ∀ x ∈ s.take m, x < s[m] := by
          intro x hx
          have hx1 := hle x hx
          rcases Nat.eq_zero_or_pos m with h0 | h0
          · subst h0; simp at hx
          · have hk2 : s[m] ≠ s[m - 1] := by
              simp only [Lib.keeps, decide_eq_true_eq] at hk
              rcases hk with hk | hk
              · omega
              · rw [e1] at hk
                intro e
                apply hk
                rw [e]
                simp [show m - 1 < s.length by omega]
            have hx2 : x ≤ s[m - 1] := by
              have e3 : s.take m = s.take (m - 1) ++ [s[m - 1]] := by
                have := List.take_succ_eq_append_getElem (l := s) (i := m - 1) (by omega)
                rwa [show m - 1 + 1 = m by omega] at this
              have h3 : (s.take (m - 1) ++ [s[m - 1]]).Pairwise (· ≤ ·) := by rw [← e3]; exact hs.sublist (List.take_sublist _ _)
              rw [e3] at hx
              rcases List.mem_append.1 hx with hx | hx
              · exact (List.pairwise_append.1 h3).2.2 x hx _ (by simp)
              · simp at hx; omega
            have hx3 : s[m - 1] ≤ s[m] := hle _ (by
              rw [List.mem_take_iff_getElem]
              exact ⟨m - 1, by omega, rfl⟩)
            omega
        refine ⟨List.pairwise_append.2 ⟨h1, by simp, fun x hx y hy => ?_⟩, fun x => by rw [List.mem_append, List.mem_append, h2]⟩
        simp at hy
        subst hy
        exact hne x ((h2 x).1 hx)
      · rw [if_neg hk, List.append_nil]
        refine ⟨h1, fun x => ?_⟩
        rw [h2, List.mem_append, List.mem_singleton]
        refine ⟨.inl, ?_⟩
        rintro (h | rfl)
        · exact h
        · simp only [Lib.keeps, decide_eq_true_eq, not_or, ne_eq, Classical.not_not] at hk
          obtain ⟨k1, k2⟩ := hk
          rw [e1] at k2
          rw [k2, List.mem_take_iff_getElem]
          exact ⟨m - 1, by omega, by simp [show m - 1 < s.length by omega]⟩
  obtain ⟨h1, h2⟩ := key s.length (Nat.le_refl _)
  exact sch.uniq_of h1 (fun x => by have := h2 x; rw [List.take_length] at this; exact this)

/-- a row of the call's own, rising: without the numbers that come again -/
theorem compact_own {w : World} {base g cap n : Nat} {s : List Int} (hn : s.length = n) (hs : s.Pairwise (· ≤ ·)) (h : w.ownsRow base 3 1 (.slice (some ⟨g, 0, none⟩) n cap) n (s.map (Value.int .i64))) (hl : n < 4611686018427387904) :
    Calls Try.prog 68 #[.slice (some ⟨g, 0, none⟩) n cap] w fun e w' => e = .returned (.slice (some ⟨g, 0, none⟩) (sch.uniq s).length cap) ∧ w'.ownsRow base 3 1 (.slice (some ⟨g, 0, none⟩) (sch.uniq s).length cap) (sch.uniq s).length ((sch.uniq s).map (Value.int .i64)) ∧ (∀ B w0, Below B w0 w → B ≤ base → Below B w0 w') := by
  subst hn
  obtain ⟨g', cap', hv, hb, hg, hnc, hcm, hlen, hH⟩ := Lib.holds_of_ownsRow h (by intro e; cases e)
  cases hv
  have hle := sch.uniq_le s
  have hcu := compact_uniq hs
  refine (AnyG.slices_Compact_int lays g 0 cap s w hH (by omega) hnc).mono ?_
  rintro e w' ⟨rfl, q, rfl⟩
  rw [hcu]
  refine ⟨rfl, ?_, fun B w0 hw hB => Lib.below_putRow hw (by omega)⟩
  have := Lib.ownsRow_putRow (q := q) (k := (sch.uniq s).length) (ys := sch.uniq s ++ List.replicate (s.length - (sch.uniq s).length) 0) h (by simp; omega) hle
  rwa [List.take_left] at this
theorem compact_empty (a : Option Addr) (cap : Nat) (w : World) : Calls Try.prog 68 #[.slice a 0 cap] w fun e w' => e = .returned (.slice a 0 cap) ∧ w' = w := AnyG.slices_Compact_int_empty lays a cap w
theorem sort_empty (a : Option Addr) (cap : Nat) (w : World) : Calls Try.prog 67 #[.slice a 0 cap] w fun e w' => e = .returned (.tuple #[]) ∧ w' = w := AnyM.slices_Sort_int_none srt.lays a cap w
end Go.Proofs.Ytlaflhnnddfkkaa.cmpt
