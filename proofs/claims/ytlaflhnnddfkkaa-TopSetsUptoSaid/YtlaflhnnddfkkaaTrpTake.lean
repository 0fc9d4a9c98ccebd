/- Package treap: take. -/
import Derived.Test.YtlaflhnnddfkkaaTrpFns3
namespace Go.Proofs.Ytlaflhnnddfkkaa.trp
open Go Go.RowKit
open Go.Proofs.Ytlaflhnnddfkkaa.sch
set_option linter.unusedVariables false

/-- a whole tree goes below -/
theorem taken {st : Pth} {t : Tr} {D : List Int} (h1 : Tp (whole st .nil)) (h2 : keys (whole st .nil) = D) (ht : Tp t) (h4 : ∀ q ∈ st.head?, mkLe t (prio q.2.1)) : Tp (whole st t) ∧ keys (whole st t) = D ++ keys t :=
  ⟨whole_put h1 ht h4, by rw [whole_keys, h2]⟩
theorem outr_le {st : Pth} {x m : Int} {l r : Tr} (h : outr st m = true) : ∀ q ∈ st.head?, mkLe (.node x m l r) (prio q.2.1) := fun q hq => by
  cases st with
  | nil => simp at hq
  | cons q' st =>
    obtain rfl : q' = q := by simpa using hq
    exact show m ≤ prio q'.2.1 from of_decide_eq_true h

section
variable {w W W' : World} {b b' : Nat} {r r' : Option Nat} {D : List Int} {T t : Tr} {st : Wt} {v : Value} {p : Option Addr}
/-- a growing tree changes -/
theorem Rs.grow (h : Rs w W b' r' t st v p) (hG : Gr W w.heap.size b r D T) (hc : Chg b r W W') (hb : Below w.heap.size w W') : Rs w W' b' r' t st v p :=
  h.kept (fun g k cs hk hg => hG.other hc g k cs (by rcases hk with rfl | rfl <;> decide) (by rcases hk with rfl | rfl <;> decide) hg) hb
/-- a tree that is taken apart changes -/
theorem Gr.rest (h : Gr W w.heap.size b r D T) (hR : Rs w W b' r' t st v p) (hc : Chg b' r' W W') : Gr W' w.heap.size b r D T :=
  h.kept fun g k cs hk hg => hR.other hc g k cs (by rcases hk with rfl | rfl <;> decide) (by rcases hk with rfl | rfl <;> decide) hg
theorem Gr.own (h : Gr W w.heap.size b r D T) : w.heap.size ≤ b := by obtain ⟨_, _, _, hm, _⟩ := h; exact hm.own
theorem Gr.ge (h : Gr W w.heap.size b r D T) : ∀ k, r = some k → w.heap.size ≤ k := by obtain ⟨_, _, _, hm, _⟩ := h; exact hm.ge
end

set_option maxHeartbeats 8000000 in
/-- a number is next -/
theorem take_next {w W : World} {b b' : Nat} {r r' : Option Nat} {D : List Int} {T l k : Tr} {q : Option Addr} {x m : Int} {st : Wt} {v : Value} {p : Option Addr} (hG : Gr W w.heap.size b r D T) (hR : Rs w W b' r' .nil ((q, .node x m l k) :: st) v p)
    (hT : mkLt T (prio x)) (hD : D.length < 4398046511104) (hst : st.length < 4398046511104) :
    Calls Try.prog 81 #[.pointer (some ⟨b, 0, none⟩), .pointer (some ⟨b', 0, none⟩)] W fun e W' => e = .returned (.tuple #[]) ∧
      (∃ r2 v2 p2, Gr W' w.heap.size b r2 (D ++ [x]) .nil ∧ Rs w W' b' r' k st v2 p2 ∧ Fr W r r2) ∧ Third w W W' b' r' r' ∧ Below w.heap.size w W' := by
  have c0 := hR.box.cell 0
  have l0 := hR.box.lt
  obtain rfl : p = none := hR.tree
  have hnx := next_any hR (by omega)
  have hadd := fun W1 (hg : Gr W1 w.heap.size b r D T) (hs : w.heap.size ≤ W1.heap.size) => add_any hg hT hD hs
  have hbl := hR.below
  have hbase := hR.base
  have hge := hR.ge
  simp only [List.getElem?_cons_zero] at c0
  go_enter Try.func81, Try.ntmps81
  go_wp2_with (first
    | (go_at_call 83; (with_reducible refine hnx.mono ?_); clear hnx c0; rintro e w1 ⟨rfl, ⟨v2, p2, hR1⟩, hc1⟩; have hb1 := hR1.below; have hG1 := hG.rest hR hc1)
    | (go_at_call 84; (with_reducible refine (hadd _ hG1 hb1.size).mono ?_); clear hadd; rintro e w2 ⟨rfl, ⟨r2, hG2, hf2⟩, hc2⟩))
  go_end0
  have hb2 : Below w.heap.size w w2 := hb1.trans (hc2.below hG1.own hG1.ge hb1.size)
  refine ⟨rfl, ⟨r2, v2, p2, hG2, hR1.grow hG1 hc2 hb2, hf2.old hc1.size⟩, fun b2 r2' t2 st2 v3 p3 hne hs h3 => ⟨?_, hs⟩, hb2⟩
  exact (hR.chg h3 hs hne hc1 hb1).grow hG1 hc2 hb2

set_option maxHeartbeats 8000000 in
/-- a tree is next -/
theorem take_tree {w W : World} {b b' : Nat} {r r' : Option Nat} {D : List Int} {x m : Int} {l k : Tr} {st : Wt} {v : Value} {p : Option Addr} (hG : Gr W w.heap.size b r D .nil) (hR : Rs w W b' r' (.node x m l k) st v p)
    (hT : Tp (.node x m l k)) (hD : D.length < 4398046511104) (hst : st.length < 4398046511104) :
    Calls Try.prog 81 #[.pointer (some ⟨b, 0, none⟩), .pointer (some ⟨b', 0, none⟩)] W fun e W' => e = .returned (.tuple #[]) ∧
      (∃ r2 r2' D' T' t' st' v2 p2, Gr W' w.heap.size b r2 D' T' ∧ Rs w W' b' r2' t' st' v2 p2 ∧ Tk D .nil (.node x m l k) st D' T' t' st' ∧ Fr W r r2 ∧ Third w W W' b' r' r2') ∧ Below w.heap.size w W' := by
  obtain ⟨st0, v0, p0, hm, htp, hks⟩ := hG
  have hls := whole_len st0 .nil
  rw [hks] at hls
  have c0 := hR.box.cell 0
  have l0 := hR.box.lt
  have hbl := hR.below
  have hbase := hR.base
  have hge := hR.ge
  obtain ⟨g1, a1, a2, rfl, hg1, hk1, -, -⟩ := hR.tree
  have k1 := (hk1.below hbl hg1).cell 1
  have j1 := Nat.lt_of_lt_of_le hg1 hbl.size
  simp only [List.getElem?_cons_zero, List.getElem?_cons_succ] at c0 k1
  have hout := outranks_any hm m (by omega)
  rcases hf : outr st0 m with _ | _
  · rw [hf] at hout
    have hR1 := fun W1 (hb : Below W.heap.size W W1) => hR.kept (W' := W1) (fun _ _ _ _ hg => hg.on hb) (hbl.trans (hb.mono hbl.size))
    have hop := fun W1 (hb : Below W.heap.size W W1) => open_any (hR1 W1 hb) hst
    have c1 := fun W1 (hb : Below W.heap.size W W1) => (hb.cell (p := ⟨b', 0, none⟩) l0).trans c0
    go_enter Try.func81, Try.ntmps81
    go_wp2_with (first
      | (go_at_call 94; (with_reducible refine hout.mono ?_); clear hout c0; rintro e w1 ⟨rfl, hb1⟩)
      | (go_at_call 82; (with_reducible refine (hop _ hb1).mono ?_); clear hop; rintro e w2 ⟨rfl, ⟨r2', v2, p2, hR2, hf2⟩, hc2⟩))
    go_end0
    have hb2 := hR2.below
    have hG1 : Gr w1 w.heap.size b r D .nil := ⟨st0, v0, p0, hm.kept fun _ _ _ _ hg => hg.on hb1, htp, hks⟩
    refine ⟨rfl, ⟨r, r2', D, .nil, l, _, v2, p2, hG1.rest (hR1 _ hb1) hc2, hR2, .inr (.inr ⟨rfl, rfl, _, x, m, k, rfl, rfl⟩), Fr.refl _ _, fun b2 r2'' t2 st2 v3 p3 hne hs h3 => ?_⟩, hb2⟩
    have h4 := h3.kept (W' := w1) (fun _ _ _ _ hg => hg.on hb1) (hbl.trans (hb1.mono hbl.size))
    exact ⟨(hR1 _ hb1).chg h4 hs hne hc2 hb2, hs.fr hf2 h4.lt⟩
  · rw [hf] at hout
    have hend : Hid (Tp (whole st0 (.node x m l k)) ∧ keys (whole st0 (.node x m l k)) = D ++ keys (.node x m l k)) := Lib.hid (taken htp hks hT (outr_le hf))
    have hR1 := fun W1 (hb : Below W.heap.size W W1) => hR.kept (W' := W1) (fun _ _ _ _ hg => hg.on hb) (hbl.trans (hb.mono hbl.size))
    have hbb : b ≠ b' := blk_ne hm.box hR.box (by decide)
    have hm1 := fun W1 (hb : Below W.heap.size W W1) => hm.kept (W' := W1) fun _ _ _ _ hg => hg.on hb
    have c1 := fun W1 (hb : Below W.heap.size W W1) => (hb.cell (p := ⟨b', 0, none⟩) l0).trans c0
    clear hks htp hls hf hk1
    go_enter Try.func81, Try.ntmps81
    go_wp2_with (go_at_call 94; (with_reducible refine hout.mono ?_); clear hout c0; rintro e w1 ⟨rfl, hb1⟩; have hM := hm1 _ hb1; have hR2 := hR1 _ hb1; have c0 := c1 _ hb1; have d0 := hM.box.cell 0; have d1 := hM.box.cell 1; have f0 := hM.box.free 0; have f1 := hM.box.free 1; have f2 := hR2.box.free 0; have l1 := hM.box.lt; have l2 := hR2.box.lt; simp only [List.getElem?_cons_zero, List.getElem?_cons_succ] at d0 d1; clear c1 hm1 hR1)
    go_end0
    have hb1' : Below w.heap.size w w1 := hbl.trans (hb1.mono hbl.size)
    obtain ⟨W8, hW8⟩ : ∃ W8, w1.setCell ⟨b, 1, none⟩ (.pointer (some ⟨g1, 0, none⟩)) = W8 := ⟨_, rfl⟩
    have hk8 : ∀ g t cs, t ≠ tyG → hp.Blk w1 g t cs → hp.Blk W8 g t cs := fun g t cs ht hk => by rw [← hW8]; exact hk.other (blk_ne hk hM.box ht) _
    have hb8 : Below w.heap.size w W8 := by rw [← hW8]; exact hb1'.setCell hM.own _
    have hG8 : Gr W8 w.heap.size b r (D ++ keys (.node x m l k)) (.node x m l k) := ⟨st0, v0, _, ⟨by rw [← hW8]; exact hM.box.set 1 _, row_keep hM.row fun g cs hk => hk8 _ _ _ (by decide) hk, hM.own, hM.blk, fun q hq => (hM.lefts q hq).kept fun g cs _ hk => hk8 _ _ _ (by decide) hk, Nod.x hM.ge (hR2.tree.below hb8)⟩, hend.out⟩
    have hR8 := hR2.kept (W' := W8) (fun g t cs ht hk => hk8 g t cs (by rcases ht with rfl | rfl <;> decide) hk) hb8
    rw [hW8]
    obtain ⟨W9, hW9⟩ : ∃ W9, W8.setCell ⟨b', 0, none⟩ (.pointer none) = W9 := ⟨_, rfl⟩
    rw [hW9]
    have hc9 : Chg b' r' W8 W9 := by rw [← hW9]; exact (Chg.refl _ _ _).set 0 _
    have hb9 : Below w.heap.size w W9 := by rw [← hW9]; exact hb8.setCell hR8.base _
    refine ⟨rfl, ⟨r, r', _, _, .nil, st, v, none, hG8.rest hR8 hc9, ⟨by rw [← hW9]; exact hR8.box.set 0 _, hR8.base, hR8.blk, by rw [← hW9]; exact hp.row_set hR8.row hR8.box (by decide) _, rfl, hR8.up, hb9⟩, .inr (.inl ⟨by simp, rfl, rfl, rfl, rfl⟩), Fr.refl _ _, fun b2 r2' t2 st2 v3 p3 hne hs h3 => ⟨?_, hs⟩⟩, hb9⟩
    have h4 := h3.kept (W' := w1) (fun _ _ _ _ hg => hg.on hb1) hb1'
    have h5 := h4.kept (W' := W8) (fun g t cs ht hk => hk8 g t cs (by rcases ht with rfl | rfl <;> decide) hk) hb8
    exact hR8.chg h5 hs hne hc9 hb9
end Go.Proofs.Ytlaflhnnddfkkaa.trp
