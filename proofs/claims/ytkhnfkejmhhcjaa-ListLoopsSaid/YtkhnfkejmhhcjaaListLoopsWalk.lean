/- The walk of ListLoops. -/
import Derived.Test.YtkhnfkejmhhcjaaBrk
namespace Go.Proofs.Ytkhnfkejmhhcjaa.listLoops
open Go Go.RowKit
set_option linter.unusedVariables false
attribute [local go_sem] Oper.semAt_some

/-- what was taken so far -/
def Inv (w : World) (G : Nat) (x1 : Int) (pre : List Int) (W : World) : Prop :=
  Below w.heap.size w W ∧ hp.Blk W w.heap.size 3 [.int .i64 x1] ∧ pre.length ≤ x1.toNat ∧
    ∃ a c, hp.Blk W G 22 [.slice a pre.length c] ∧ W.ownsRow (w.heap.size + 1) 3 1 (.slice a pre.length c) pre.length (pre.map (Value.int .i64))

set_option maxHeartbeats 8000000 in
theorem walk (v0 : Value) (l0 : List Int) (x1 : Int) (w : World) (i0 : hp.IsInts w w.heap.size v0 l0) (w1 : (Lit.int .i64 x1).wf = true) (bd0 : l0.length ≤ 17592186043904) :
    Calls Try.prog 9 #[v0, .int .i64 x1] w fun e w' => e = .returned (.bool true) ∧ Below w.heap.size w w' := by
  obtain ⟨ii, hi, hz0, hz1, hz2⟩ := info_parts lst.infoInt
  have hwf0 := i0.wf
  have i0' := i0
  obtain ⟨a0, c0, rfl, ⟨hna, hcap⟩, -⟩ := i0'
  have b0 : Below w.heap.size w (w.alloc (.cells #[.int .i64 x1] 3)) := by
    ((repeat' (first | with_reducible exact Below.refl _ _ | with_reducible apply Below.setCell | with_reducible apply below_drewN | with_reducible apply Below.drew | with_reducible apply Below.alloc | with_reducible refine Below.trans ?_ (Below.mono (by assumption) ?_))) <;> (first | (simp; done) | (simp; omega) | omega))
  (refine rng.calls_of_marks Try.func9 rfl ?_; simp only [Try.ntmps9, List.size_toArray, List.length_cons, List.length_nil, Nat.reduceAdd, Nat.reduceSub, Array.replicate_succ, Array.replicate_zero, List.push_toArray, List.append_toArray, List.nil_append, List.cons_append])
  go_wp2_with (first
    | (go_at_call 12; go_loud (refine (lst.listed_any _).mono ?_; rintro e wa ⟨rfl, hba⟩; have b1 := (b0.trans (hba.mono b0.size)).alloc (Nat.le_trans b0.size hba.size) (.cells #[.slice none 0 0] 22)))
    | (go_at_call 13; refine (lst.of_any _ l0 _ (i0.on b1) (by omega)).mono ?_; rintro e wb ⟨⟨u, rfl, hu⟩, hbb⟩; have hu0 := hu; obtain ⟨p, rfl, hch, -⟩ := hu0)
    | (go_at_call 36; refine (lst.all_any _ _ _).mono ?_; rintro e wc ⟨rfl, rfl⟩))
  obtain ⟨W0, hW0⟩ : ∃ W0, wb.alloc (.cells #[.pointer p, .int .i64 l0.length] 26) = W0 := ⟨_, rfl⟩
  have bb : Below w.heap.size w wb := b1.trans (hbb.mono b1.size)
  have hb3 : Below w.heap.size w W0 := by
    rw [← hW0]
    exact bb.alloc bb.size _
  have hN : hp.Blk W0 w.heap.size 3 [.int .i64 x1] := by
    rw [← hW0]
    exact ((((hp.Blk.new w [.int .i64 x1] _).on hba).alloc _).on hbb).alloc _
  have hG : hp.Blk W0 wa.heap.size 22 [.slice none 0 0] := by
    rw [← hW0]
    exact ((hp.Blk.new wa [.slice none 0 0] _).on hbb).alloc _
  have hC : hp.Blk W0 wb.heap.size 26 [.pointer p, .int .i64 l0.length] := by
    rw [← hW0]
    exact hp.Blk.new wb [.pointer p, .int .i64 l0.length] _
  have hL : lst.Chain W0.heap.size W0 p l0 := by
    rw [← hW0]
    exact hch.grow ((Below.refl _ _).alloc (Nat.le_refl _) _) (by simp)
  have hga : w.heap.size + 1 ≤ wa.heap.size := by
    have := hba.size
    simpa using this
  rw [hW0]
  clear hu hch hba hbb b1 b0 bb hW0
  apply rng.wp_range_brk (gf := 38) (lb := #[.pointer (some ⟨wb.heap.size, 0, none⟩)]) rfl lst.enters_all
    (lst.all_keep 8 wb.heap.size W0.heap.size p l0.length l0 W0 (Nat.le_refl _) hC hL)
    (fun h k g cs hb => k g cs (h g cs hb))
    (fun W l o o' hl h ho _ g cs hk => (rng.Turn.put (B := W0.heap.size) o' hl h ho).blk hk)
    (fun _ => rfl) 0 (fun _ _ h => h)
    (Inv w wa.heap.size x1)
    (fun s W => ∃ pre x, s = pre ++ [x] ∧ x1 ≤ pre.length ∧ Inv w wa.heap.size x1 pre W)
    (by rintro s W W' ⟨h1, h2, h3, a, c, h4, h5⟩ T; exact ⟨T.below h1 hb3.size h1.size, T.blk h2, h3, a, c, T.blk h4, T.row h5⟩)
    (by rintro s W W' ⟨pre, x, rfl, hx, h1, h2, h3, a, c, h4, h5⟩ T; exact ⟨pre, x, rfl, hx, T.below h1 hb3.size h1.size, T.blk h2, h3, a, c, T.blk h4, T.row h5⟩)
    ⟨hb3, hN, Nat.zero_le _, none, 0, hG, World.ownsRow_nil _ _ _ _⟩
    (F := fun W => Below w.heap.size w W ∧ hp.Blk W w.heap.size 3 [.int .i64 x1] ∧ ∃ u, hp.Blk W wa.heap.size 22 [u] ∧ hp.IsInts W W.heap.size u (l0.take x1.toNat))
  · intro l x W K hK
    gi_wp2
    exact hK
  · rintro r pre x W ⟨hb, hn, hle, a, c, hk, hrow⟩ hlen
    have hd := hk.cell 0
    have hdn := hn.cell 0
    simp only [List.getElem?_cons_zero] at hd hdn
    by_cases hge : x1 ≤ (pre.length : Int)
    · have hI : Inv w wa.heap.size x1 pre W := ⟨hb, hn, hle, a, c, hk, hrow⟩
      gi_wp2
      · exact KeepsFrom.refl _ _
    · have hle1 : pre.length + 1 ≤ x1.toNat := by omega
      have hl1 : (pre ++ [x]).length = pre.length + 1 := by simp
      have hbl : pre.length + 1 ≤ 17592186044416 := by omega
      gi_wp2_with (gi_at_builtin; refine wpListIn_append_own _ rfl _ _ 22 rfl (w.heap.size + 1) 3 ii (.int .i64 0) 1 8 Try.underlying22 hi hz0 hz1 hz2 rfl (by decide) _ _ _ rfl (hrow.alloc _) ⟨W.heap.size, 0, none⟩ 1 1 [.int .i64 x] rfl rfl (cell_one_new _ _ _) (by simp [Value.oneCell']) (by unfold maxLen; omega) (by omega) (by have := hn.lt; simp; omega) ?_; intro v' w1 hown' hgrow _; obtain ⟨g', cap', rfl⟩ := ownsRow_succ hown'; obtain ⟨hv1, hv2, hr2, hk2, hbb2⟩ := (show Boxed W _ _ _ from hk).appended (by decide) hrow (by have := hn.lt; omega) (by omega) hown' hgrow; have hc1 := hv1.cell; have hf1 := hv1.frozen)
      refine ⟨hk2.from _, fun g cs h => (h.grown (by decide) hrow hgrow).other (h.ne hk (by decide)) _, hb.trans (hbb2.mono (by omega)), hn.below hbb2 (by omega), ?_⟩
      rw [hl1]
      exact ⟨hle1, _, _, hv2, by simpa using hr2⟩
  · rintro xs W rfl ⟨hb, hn, hle, a, c, hk, hrow⟩
    refine ⟨hb, hn, _, hk, ?_⟩
    rw [List.take_of_length_le hle]
    exact hp.IsInts.of_owns hrow rfl hwf0
  · rintro s W ⟨t, ht⟩ ⟨pre, x, rfl, hge, hb, hn, hle, a, c, hk, hrow⟩
    refine ⟨hb, hn, _, hk, ?_⟩
    have he : l0.take x1.toNat = pre := by
      rw [show x1.toNat = pre.length by omega, ← ht]
      simp
    rw [he]
    exact hp.IsInts.of_owns hrow rfl (fun y hy => hwf0 y (by rw [← ht]; simp [hy]))
  · rintro D W hD ⟨hb, hn, u, hk, hint⟩ hK
    have hd := hk.cell 0
    have hdn := hn.cell 0
    simp only [List.getElem?_cons_zero] at hd hdn
    have hDD : w.heap.size ≤ D := by have := hb3.size; omega
    have iW := i0.on hb
    by_cases hneg : x1 < 0
    · have htk : l0.take x1.toNat = [] := by
        rw [show x1.toNat = 0 by omega]
        rfl
      rw [htk] at hint
      clear htk hcap
      go_wp2_with (go_at_call 14; refine (same.ints_eq rfl hint (hp.IsInts.nil _ _)).mono ?_; rintro e w9 ⟨rfl, hb9⟩)
      have hK9 := (hb9.block D (Array.getElem?_eq_some_iff.1 hK).1).trans hK
      exact rng.postM_ret hK9 rfl (results_tmp rfl _ _ _) ⟨rfl, (rng.Turn.put (B := w.heap.size) _ hDD hK9 rfl).below (hb.trans (hb9.mono hb.size)) (Nat.le_refl _) (Nat.le_trans hb.size hb9.size)⟩
    · obtain ⟨m, rfl⟩ : ∃ m : Nat, x1 = m := ⟨x1.toNat, by omega⟩
      rw [Int.toNat_natCast] at hint
      clear hneg
      by_cases hlt : m < l0.length
      · obtain ⟨b, off, rfl, -, -⟩ := i0.at (by omega)
        have hmc : m ≤ c0 := by omega
        have hT := iW.take (k := m) (by omega) (c' := c0) (by omega) (fun h => by cases h)
        clear hcap hna
        go_wp2_with (go_at_call 14; refine (same.ints_eq rfl hint hT).mono ?_; rintro e w9 ⟨rfl, hb9⟩)
        have hK9 := (hb9.block D (Array.getElem?_eq_some_iff.1 hK).1).trans hK
        exact rng.postM_ret hK9 rfl (results_tmp rfl _ _ _) ⟨rfl, (rng.Turn.put (B := w.heap.size) _ hDD hK9 rfl).below (hb.trans (hb9.mono hb.size)) (Nat.le_refl _) (Nat.le_trans hb.size hb9.size)⟩
      · rw [List.take_of_length_le (by omega)] at hint
        clear hcap hna
        go_wp2_with (go_at_call 14; refine (same.ints_eq rfl hint iW).mono ?_; rintro e w9 ⟨rfl, hb9⟩)
        have hK9 := (hb9.block D (Array.getElem?_eq_some_iff.1 hK).1).trans hK
        exact rng.postM_ret hK9 rfl (results_tmp rfl _ _ _) ⟨rfl, (rng.Turn.put (B := w.heap.size) _ hDD hK9 rfl).below (hb.trans (hb9.mono hb.size)) (Nat.le_refl _) (Nat.le_trans hb.size hb9.size)⟩

end Go.Proofs.Ytkhnfkejmhhcjaa.listLoops
