/- The walk of RalSizes. -/
import Derived.Test.YthnfcmjlpimnoaaRalSetsWalk
import Derived.Test.YthnfcmjlpimnoaaRalInts
import Derived.Test.YthnfcmjlpimnoaaRalPop
import Derived.Test.YthnfcmjlpimnoaaSkOps
namespace Go.Proofs.Ythnfcmjlpimnoaa.ralSizes
open Go Go.RowKit Go.Proofs.Ythnfcmjlpimnoaa.ral Go.Proofs.Ythnfcmjlpimnoaa.sk
set_option linter.unusedVariables false

theorem sum_dgs_nonneg : ∀ ks : List Nat, 0 ≤ sum (dgs ks)
  | [] => by simp [dgs, sum]
  | k :: ks => by
    have := sum_dgs_nonneg ks
    have := dg_nonneg (k + 1)
    rw [show dgs (k :: ks) = dg (k + 1) :: dgs ks from rfl, sum_cons]
    omega
theorem le_sum : ∀ (ks : List Nat) (k : Nat), k ∈ ks → dg (k + 1) ≤ sum (dgs ks)
  | j :: ks, k, h => by
    have h0 := sum_dgs_nonneg ks
    have h1 := dg_nonneg (j + 1)
    rw [show dgs (j :: ks) = dg (j + 1) :: dgs ks from rfl, sum_cons]
    rcases List.mem_cons.1 h with rfl | h
    · omega
    · have := le_sum ks k h
      omega
theorem dgs_at (ks : List Nat) (i : Nat) (h : i < ks.length) : (dgs ks).getD i 0 = dg (ks[i] + 1) := by
  simp [dgs, List.getD, h]
theorem isD_of {k : Nat} (h : dg (k + 1) ≤ 1099511627776) : IsD (dg (k + 1)) := by
  refine ⟨k + 1, by omega, ?_, rfl⟩
  rcases Nat.lt_or_ge 40 (k + 1) with h' | h'
  · have := dg_le (show 41 ≤ k + 1 from h')
    have e : dg 41 = 2199023255551 := by decide
    omega
  · exact h'

/-- heights that grow are skew digits -/
theorem ord_ok {ks : List Nat} (h : Ord ks) (hs : sum (dgs ks) ≤ 1099511627776) : Ok (dgs ks) := by
  rcases ks with _ | ⟨k, r⟩
  · exact Ok.nil
  · have hD : ∀ j ∈ k :: r, IsD (dg (j + 1)) := fun j hj => isD_of (by have := le_sum _ j hj; omega)
    obtain ⟨h1, h2⟩ := h
    refine ok_cons.2 ⟨hD k (by simp), fun i hi => ?_⟩
    have hir : i < r.length := by simpa [dgs] using hi
    have e : (dgs r).getD i 0 = dg (r[i] + 1) := dgs_at r i hir
    refine ⟨by rw [show (List.map (fun k => dg (k + 1)) r) = dgs r from rfl, e]; exact hD _ (by simp), ?_⟩
    rw [show (List.map (fun k => dg (k + 1)) r) = dgs r from rfl]
    cases i with
    | zero =>
      rw [if_pos rfl, e]
      have := h1 (r[0]) (by simp)
      exact dg_le (by omega)
    | succ i =>
      rw [if_neg (by omega), Nat.add_sub_cancel, e, dgs_at r i (by omega)]
      have hlt : r[i] < r[i + 1] := List.pairwise_iff_getElem.1 h2 i (i + 1) (by omega) hir (by omega)
      have := dg_lt (show r[i] + 1 < r[i + 1] + 1 by omega)
      have := dg_nonneg (r[i] + 1)
      omega

set_option maxHeartbeats 8000000 in
theorem walk (v0 : Value) (l0 : List Int) (a1 : Int) (w : World) (i0 : hp.IsInts w w.heap.size v0 l0) (w1 : (Lit.int .i64 a1).wf = true) (bd0 : l0.length ≤ 1048576) :
    Calls Try.prog 4 #[v0, .int .i64 a1] w fun e w' => e = .returned (.bool true) ∧ Below w.heap.size w w' := by
  have i0' := i0
  obtain ⟨a0, c0, rfl, -, -⟩ := i0'
  go_enter Try.func4, Try.ntmps4
  go_wp2_with (first
    | (go_at_call 7; with_reducible refine (of_any _ l0 _ i0 (by omega)).mono ?_; rintro e wa ⟨⟨p, rfl, hL⟩, hb⟩; have hwa := hb.size; have hA := hp.Blk.new wa [.pointer p] 25; replace hb := st hb ((Below.refl _ _).alloc (Nat.le_refl _) (.cells #[.pointer p] 25)); replace hL := hL.on ((Below.refl _ _).alloc (Nat.le_refl _) (.cells #[.pointer p] 25)))
    | (go_at_call 16; refine (skewed_any _).mono ?_; rintro e wb ⟨rfl, hb2⟩; replace hb := st hb hb2; replace hL := hL.on hb2; replace hA := hA.on hb2; clear hb2)
    | (go_at_call 7; refine (of_five _).mono ?_; rintro e wc ⟨⟨q1, rfl, hL1⟩, hb2⟩; replace hb := st hb hb2; replace hL := hL.on hb2; replace hA := hA.on hb2; clear hb2)
    | (go_at_call 11; refine (len_any _ _ _ hL1 (by decide)).mono ?_; rintro e wd ⟨rfl, hb2⟩; replace hb := st hb hb2; replace hL := hL.on hb2; replace hA := hA.on hb2; clear hb2 hL1))
  go_loopw [7] (fun i wr => ∃ k : Nat, ∃ q, i = .int .i64 k ∧ k ≤ l0.length ∧ Below w.heap.size w wr ∧ hp.Blk wr wa.heap.size 25 [.pointer q] ∧ IsRal wr wr.heap.size (rv q) (l0.drop k)) (fun i _ => l0.length - (intOf i).toNat)
  case atStart => exact ⟨0, p, rfl, Nat.zero_le _, hb, hA, by rw [List.drop_zero]; exact hL⟩
  case round =>
    clear hb hA hL
    obtain ⟨k, q, rfl, hk, hb, hA, hL⟩ := hrel
    have d0 := hA.cell 0
    simp only [List.getElem?_cons_zero] at d0
    by_cases hlt : k < l0.length
    · by_cases hka : (k : Int) < a1
      · have hdr := List.drop_eq_getElem_cons hlt
        rw [hdr] at hL
        clear hdr
        go_wp2_with (go_at_call 15; refine (pop_cons _ _ _ _ hL (by simp; omega)).mono ?_; rintro e we ⟨⟨q2, rfl, hL2⟩, hb2⟩; have hA2 := hA.on hb2; have hlt2 := hA2.lt; have d2 := hA2.cell 0; have f2 := hA2.free 0; simp only [List.getElem?_cons_zero] at d2)
        go_roundw
        case rel =>
          refine ⟨k + 1, q2, by go_num, by omega, ?_, (hA2.set 0 _).alloc _, ?_⟩
          · have := st hb hb2
            exact (this.setCell (by simpa using hwa) _).alloc (by have := this.size; simpa using this) _
          · refine ((hL2.keep (Keep.of_set (o := 0) hA2 (by decide) (by decide) (.pointer q2))).mono (by simp)).on ?_
            exact (Below.refl _ _).alloc (Nat.le_refl _) _
        case measure => simp [intOf]; omega
      · obtain ⟨t, ht⟩ : ∃ t, l0.drop k = t := ⟨_, rfl⟩
        have htl : t.length ≤ 1048576 := by rw [← ht]; simp; omega
        rw [ht] at hL
        clear ht
        (go_wp2_with (first
          | (go_at_call 11; refine (len_any _ _ _ hL (by omega)).mono ?_; rintro e wf ⟨rfl, hb2⟩; replace hb := st hb hb2; replace hL := hL.on hb2; replace hA := hA.on hb2; clear hb2)
          | (go_at_call 17; refine (digits_any (by omega) (by omega)).mono ?_; rintro e wg ⟨⟨u, D, rfl, hu, hD, hs⟩, hb2⟩; replace hb := st hb hb2; replace hL := hL.on hb2; replace hA := hA.on hb2; have d3 := hA.cell 0; simp only [List.getElem?_cons_zero] at d3; clear hb2 hA d0)
          | (go_at_call 18; refine (sizes_any _ _ _ hL (by omega)).mono ?_; clear hL; rintro e wh ⟨⟨u2, ks, rfl, hu2, ho, hs2⟩, hb2⟩; replace hb := st hb hb2; replace hu := hu.on hb2; clear hb2 d3; have heq : dgs ks = D := (ord_ok ho (by omega)).one _ hD (by omega))
          | (go_at_call 8; refine (same.ints_eq heq hu2 hu).mono ?_; rintro e wi ⟨rfl, hb2⟩; replace hb := st hb hb2; clear hb2)); go_ret; exact ⟨rfl, hb⟩)
    · obtain ⟨t, ht⟩ : ∃ t, l0.drop k = t := ⟨_, rfl⟩
      have htl : t.length ≤ 1048576 := by rw [← ht]; simp; omega
      rw [ht] at hL
      clear ht
      by_cases hka : (k : Int) < a1
      · (go_wp2_with (first
          | (go_at_call 11; refine (len_any _ _ _ hL (by omega)).mono ?_; rintro e wf ⟨rfl, hb2⟩; replace hb := st hb hb2; replace hL := hL.on hb2; replace hA := hA.on hb2; clear hb2)
          | (go_at_call 17; refine (digits_any (by omega) (by omega)).mono ?_; rintro e wg ⟨⟨u, D, rfl, hu, hD, hs⟩, hb2⟩; replace hb := st hb hb2; replace hL := hL.on hb2; replace hA := hA.on hb2; have d3 := hA.cell 0; simp only [List.getElem?_cons_zero] at d3; clear hb2 hA d0)
          | (go_at_call 18; refine (sizes_any _ _ _ hL (by omega)).mono ?_; clear hL; rintro e wh ⟨⟨u2, ks, rfl, hu2, ho, hs2⟩, hb2⟩; replace hb := st hb hb2; replace hu := hu.on hb2; clear hb2 d3; have heq : dgs ks = D := (ord_ok ho (by omega)).one _ hD (by omega))
          | (go_at_call 8; refine (same.ints_eq heq hu2 hu).mono ?_; rintro e wi ⟨rfl, hb2⟩; replace hb := st hb hb2; clear hb2)); go_ret; exact ⟨rfl, hb⟩)
      · (go_wp2_with (first
          | (go_at_call 11; refine (len_any _ _ _ hL (by omega)).mono ?_; rintro e wf ⟨rfl, hb2⟩; replace hb := st hb hb2; replace hL := hL.on hb2; replace hA := hA.on hb2; clear hb2)
          | (go_at_call 17; refine (digits_any (by omega) (by omega)).mono ?_; rintro e wg ⟨⟨u, D, rfl, hu, hD, hs⟩, hb2⟩; replace hb := st hb hb2; replace hL := hL.on hb2; replace hA := hA.on hb2; have d3 := hA.cell 0; simp only [List.getElem?_cons_zero] at d3; clear hb2 hA d0)
          | (go_at_call 18; refine (sizes_any _ _ _ hL (by omega)).mono ?_; clear hL; rintro e wh ⟨⟨u2, ks, rfl, hu2, ho, hs2⟩, hb2⟩; replace hb := st hb hb2; replace hu := hu.on hb2; clear hb2 d3; have heq : dgs ks = D := (ord_ok ho (by omega)).one _ hD (by omega))
          | (go_at_call 8; refine (same.ints_eq heq hu2 hu).mono ?_; rintro e wi ⟨rfl, hb2⟩; replace hb := st hb hb2; clear hb2)); go_ret; exact ⟨rfl, hb⟩)
end Go.Proofs.Ythnfcmjlpimnoaa.ralSizes
