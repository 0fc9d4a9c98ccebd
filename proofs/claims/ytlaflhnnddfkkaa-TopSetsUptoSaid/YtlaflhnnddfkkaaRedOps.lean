/- Package red: put, droppedLeft, droppedRight, drop. -/
import Derived.Test.YtlaflhnnddfkkaaRed
import Derived.Test.YtlaflhnnddfkkaaSchLeast
namespace Go.Proofs.Ytlaflhnnddfkkaa.red
open Go Go.RowKit
open Go.Proofs.Ytlaflhnnddfkkaa.sch

/-- a pointer to this tree, and a flag -/
def IsTB (w : World) (u : Value) (t : Tr) (b : Bool) : Prop := ∃ q, u = .tuple #[.pointer q, .bool b] ∧ IsT w (.pointer q) t
theorem IsTB.on {w w' : World} {u : Value} {t : Tr} {b : Bool} (h : IsTB w u t b) (hb : Below w.heap.size w w') : IsTB w' u t b := by
  obtain ⟨q, e, h⟩ := h
  exact ⟨q, e, h.on hb⟩

set_option maxHeartbeats 8000000 in
theorem put_any {x : Int} : ∀ (t : Tr) (p : Option Addr) (w : World), Nod w.heap.size w t p →
    Calls Try.prog 61 #[.pointer p, .int .i64 x] w fun e w' => (∃ u, e = .returned u ∧ IsT w' u (red.put x t)) ∧ Below w.heap.size w w' := by
  intro t
  induction t with
  | nil =>
    intro p w hn
    obtain rfl : p = none := hn
    have hov := over_any (m := 1) (x := x) (a := .nil) (b := .nil) (w := w) ⟨none, rfl, rfl⟩ ⟨none, rfl, rfl⟩
    show Calls _ _ _ _ fun e w' => (∃ u, e = .returned u ∧ IsT w' u (.node x 1 .nil .nil)) ∧ _
    go_enter Try.func61, Try.ntmps61
    go_wp2_with (go_at_call 86; (with_reducible refine hov.mono ?_); clear hov; rintro e w1 ⟨⟨u, rfl, hu⟩, hb1⟩)
    go_ret
    exact ⟨⟨_, rfl, hu⟩, hb1⟩
  | node y m l r ihl ihr =>
    rintro p w ⟨g, c, d, rfl, hg, hv, hl, hr⟩
    have g0 := hv.cell 0
    have g1 := hv.cell 1
    have g2 := hv.cell 2
    have g3 := hv.cell 3
    simp only [List.getElem?_cons_zero, List.getElem?_cons_succ] at g0 g1 g2 g3
    have K := Below.refl w.heap.size w

    by_cases hlt : x < y
    · by_cases hm : m = 1
      · have hcl := fun W (hW : Below w.heap.size w W) => ihl c W (hl.grow hW hW.size)
        have hov := fun W u (hW : Below w.heap.size w W) (hu : IsT W (.pointer u) (red.put x l)) => over_any (m := 1) (x := y) (w := W) hu ⟨_, rfl, hr.grow hW hW.size⟩
        rw [show red.put x (.node y m l r) = .node y 1 (red.put x l) r by rw [red.put, if_pos hlt, if_pos hm]]
        generalize red.put x l = t1 at *
        clear ihl ihr hv hl hr
        subst hm
        go_enter Try.func61, Try.ntmps61
        go_wp2_with fail
        apply rel.region_tail (C := fun w' => Below w.heap.size w w') (X := fun w w' => Below w.heap.size w w') 9 (by kernel_rfl) (by kernel_rfl) (by kernel_rfl) (by kernel_rfl) (K.drew)
        (apply rel.walk_val; (focus (intro wq hq hf; go_wp2; refine ⟨hq, Below.refl _ _, ?_, rfl⟩; (show rel.slot _ _ = _; simp only [rel.slot_lit, List.getD_cons_succ, List.getD_cons_zero]; (first | done | exact rfl)))); (simp only [rel.put_lit, List.set_cons_succ, List.set_cons_zero]))
        (apply rel.walk_val; (focus (intro wq hq hf; go_wp2; refine ⟨hq, Below.refl _ _, ?_, rfl⟩; (show rel.slot _ _ = _; simp only [rel.slot_lit, List.getD_cons_succ, List.getD_cons_zero]; (first | done | exact rfl)))); (simp only [rel.put_lit, List.set_cons_succ, List.set_cons_zero]))
        (apply rel.walk_val; (focus (intro wq hq hf; go_wp2; refine ⟨hq, Below.refl _ _, ?_, rfl⟩; (show rel.slot _ _ = _; simp only [rel.slot_lit, List.getD_cons_succ, List.getD_cons_zero]; (first | done | exact rfl)))); (simp only [rel.put_lit, List.set_cons_succ, List.set_cons_zero]))
        ((apply rel.walk_val; (focus (intro wq hq hf; (have d0 := (hq.cell (p := ⟨g, 2, none⟩) hg).trans g2); go_wp2; refine ⟨hq, Below.refl _ _, ?_, rfl⟩; (show rel.slot _ _ = _; simp only [rel.slot_lit, List.getD_cons_succ, List.getD_cons_zero]; (first | done | exact rfl)))); (simp only [rel.put_lit, List.set_cons_succ, List.set_cons_zero])))
        (apply rel.walk_val; (focus (intro wq hq hf; go_wp2; refine ⟨hq, Below.refl _ _, ?_, rfl⟩; (show rel.slot _ _ = _; simp only [rel.slot_lit, List.getD_cons_succ, List.getD_cons_zero]; (first | done | exact rfl)))); (simp only [rel.put_lit, List.set_cons_succ, List.set_cons_zero]))
        (apply rel.walk_val; (focus (intro wq hq hf; go_wp2; refine ⟨hq, Below.refl _ _, ?_, rfl⟩; (show rel.slot _ _ = _; simp only [rel.slot_lit, List.getD_cons_succ, List.getD_cons_zero]; (first | done | exact rfl)))); (simp only [rel.put_lit, List.set_cons_succ, List.set_cons_zero]))
        (apply rel.walk_val; (focus (intro wq hq hf; go_wp2; refine ⟨hq, Below.refl _ _, ?_, rfl⟩; (show rel.slot _ _ = _; simp only [rel.slot_lit, List.getD_cons_succ, List.getD_cons_zero]; (first | done | exact rfl)))); (simp only [rel.put_lit, List.set_cons_succ, List.set_cons_zero]))
        ((apply rel.walk_val; (focus (intro wq hq hf; (have d0 := (hq.cell (p := ⟨g, 3, none⟩) hg).trans g3); go_wp2; refine ⟨hq, Below.refl _ _, ?_, rfl⟩; (show rel.slot _ _ = _; simp only [rel.slot_lit, List.getD_cons_succ, List.getD_cons_zero]; (first | done | exact rfl)))); (simp only [rel.put_lit, List.set_cons_succ, List.set_cons_zero])))
        (apply rel.walk_val; (focus (intro wq hq hf; go_wp2; refine ⟨hq, Below.refl _ _, ?_, rfl⟩; (show rel.slot _ _ = _; simp only [rel.slot_lit, List.getD_cons_succ, List.getD_cons_zero]; (first | done | exact rfl)))); (simp only [rel.put_lit, List.set_cons_succ, List.set_cons_zero]))
        refine rel.walk_nil ?_
        intro w8 K8 hF
        clear hF
        replace K := K8
        clear K8
        have f0 := (K.cell (p := ⟨g, 0, none⟩) hg).trans g0
        have f1 := (K.cell (p := ⟨g, 1, none⟩) hg).trans g1
        have hg2 := Nat.lt_of_lt_of_le hg K.size
        simp only [List.drop_succ_cons, List.drop_zero]
        go_wp2_with (first
          | (go_at_call 61; (with_reducible refine (hcl _ K).mono ?_); clear hcl; rintro e w1 ⟨⟨u, rfl, hu⟩, hb1⟩; replace K := K.trans (hb1.mono K.size); clear hb1; (obtain ⟨q, rfl, hq⟩ := hu); have f0 := (K.cell (p := ⟨g, 0, none⟩) hg).trans g0; have f1 := (K.cell (p := ⟨g, 1, none⟩) hg).trans g1; have hg2 := Nat.lt_of_lt_of_le hg K.size)
          | (go_at_call 86; (with_reducible refine (hov _ _ K hq.t).mono ?_); clear hov; rintro e w2 ⟨⟨u, rfl, hu⟩, hb1⟩; replace K := K.trans (hb1.mono K.size); clear hb1))
        go_ret
        exact ⟨⟨_, rfl, hu⟩, K⟩
      · have hcl := fun W (hW : Below w.heap.size w W) => ihl c W (hl.grow hW hW.size)
        have hov := fun W u (hW : Below w.heap.size w W) (hu : IsT W (.pointer u) (red.put x l)) => balanced_any (x := y) (w := W) hu ⟨_, rfl, hr.grow hW hW.size⟩
        rw [show red.put x (.node y m l r) = bal y (red.put x l) r by rw [red.put, if_pos hlt, if_neg hm]]
        generalize red.put x l = t1 at *
        generalize bal y t1 r = t2 at *
        clear ihl ihr hv hl hr
        go_enter Try.func61, Try.ntmps61
        go_wp2_with fail
        apply rel.region_tail (C := fun w' => Below w.heap.size w w') (X := fun w w' => Below w.heap.size w w') 9 (by kernel_rfl) (by kernel_rfl) (by kernel_rfl) (by kernel_rfl) (K.drew)
        (apply rel.walk_val; (focus (intro wq hq hf; go_wp2; refine ⟨hq, Below.refl _ _, ?_, rfl⟩; (show rel.slot _ _ = _; simp only [rel.slot_lit, List.getD_cons_succ, List.getD_cons_zero]; (first | done | exact rfl)))); (simp only [rel.put_lit, List.set_cons_succ, List.set_cons_zero]))
        (apply rel.walk_val; (focus (intro wq hq hf; go_wp2; refine ⟨hq, Below.refl _ _, ?_, rfl⟩; (show rel.slot _ _ = _; simp only [rel.slot_lit, List.getD_cons_succ, List.getD_cons_zero]; (first | done | exact rfl)))); (simp only [rel.put_lit, List.set_cons_succ, List.set_cons_zero]))
        (apply rel.walk_val; (focus (intro wq hq hf; go_wp2; refine ⟨hq, Below.refl _ _, ?_, rfl⟩; (show rel.slot _ _ = _; simp only [rel.slot_lit, List.getD_cons_succ, List.getD_cons_zero]; (first | done | exact rfl)))); (simp only [rel.put_lit, List.set_cons_succ, List.set_cons_zero]))
        ((apply rel.walk_val; (focus (intro wq hq hf; (have d0 := (hq.cell (p := ⟨g, 2, none⟩) hg).trans g2); go_wp2; refine ⟨hq, Below.refl _ _, ?_, rfl⟩; (show rel.slot _ _ = _; simp only [rel.slot_lit, List.getD_cons_succ, List.getD_cons_zero]; (first | done | exact rfl)))); (simp only [rel.put_lit, List.set_cons_succ, List.set_cons_zero])))
        (apply rel.walk_val; (focus (intro wq hq hf; go_wp2; refine ⟨hq, Below.refl _ _, ?_, rfl⟩; (show rel.slot _ _ = _; simp only [rel.slot_lit, List.getD_cons_succ, List.getD_cons_zero]; (first | done | exact rfl)))); (simp only [rel.put_lit, List.set_cons_succ, List.set_cons_zero]))
        (apply rel.walk_val; (focus (intro wq hq hf; go_wp2; refine ⟨hq, Below.refl _ _, ?_, rfl⟩; (show rel.slot _ _ = _; simp only [rel.slot_lit, List.getD_cons_succ, List.getD_cons_zero]; (first | done | exact rfl)))); (simp only [rel.put_lit, List.set_cons_succ, List.set_cons_zero]))
        (apply rel.walk_val; (focus (intro wq hq hf; go_wp2; refine ⟨hq, Below.refl _ _, ?_, rfl⟩; (show rel.slot _ _ = _; simp only [rel.slot_lit, List.getD_cons_succ, List.getD_cons_zero]; (first | done | exact rfl)))); (simp only [rel.put_lit, List.set_cons_succ, List.set_cons_zero]))
        ((apply rel.walk_val; (focus (intro wq hq hf; (have d0 := (hq.cell (p := ⟨g, 3, none⟩) hg).trans g3); go_wp2; refine ⟨hq, Below.refl _ _, ?_, rfl⟩; (show rel.slot _ _ = _; simp only [rel.slot_lit, List.getD_cons_succ, List.getD_cons_zero]; (first | done | exact rfl)))); (simp only [rel.put_lit, List.set_cons_succ, List.set_cons_zero])))
        (apply rel.walk_val; (focus (intro wq hq hf; go_wp2; refine ⟨hq, Below.refl _ _, ?_, rfl⟩; (show rel.slot _ _ = _; simp only [rel.slot_lit, List.getD_cons_succ, List.getD_cons_zero]; (first | done | exact rfl)))); (simp only [rel.put_lit, List.set_cons_succ, List.set_cons_zero]))
        refine rel.walk_nil ?_
        intro w8 K8 hF
        clear hF
        replace K := K8
        clear K8
        have f0 := (K.cell (p := ⟨g, 0, none⟩) hg).trans g0
        have f1 := (K.cell (p := ⟨g, 1, none⟩) hg).trans g1
        have hg2 := Nat.lt_of_lt_of_le hg K.size
        simp only [List.drop_succ_cons, List.drop_zero]
        go_wp2_with (first
          | (go_at_call 61; (with_reducible refine (hcl _ K).mono ?_); clear hcl; rintro e w1 ⟨⟨u, rfl, hu⟩, hb1⟩; replace K := K.trans (hb1.mono K.size); clear hb1; (obtain ⟨q, rfl, hq⟩ := hu); have f0 := (K.cell (p := ⟨g, 0, none⟩) hg).trans g0; have f1 := (K.cell (p := ⟨g, 1, none⟩) hg).trans g1; have hg2 := Nat.lt_of_lt_of_le hg K.size)
          | (go_at_call 87; (with_reducible refine (hov _ _ K hq.t).mono ?_); clear hov; rintro e w2 ⟨⟨u, rfl, hu⟩, hb1⟩; replace K := K.trans (hb1.mono K.size); clear hb1))
        go_ret
        exact ⟨⟨_, rfl, hu⟩, K⟩
    · by_cases hm : m = 1
      · have hcl := fun W (hW : Below w.heap.size w W) => ihr d W (hr.grow hW hW.size)
        have hov := fun W u (hW : Below w.heap.size w W) (hu : IsT W (.pointer u) (red.put x r)) => over_any (m := 1) (x := y) (w := W) ⟨_, rfl, hl.grow hW hW.size⟩ hu
        rw [show red.put x (.node y m l r) = .node y 1 l (red.put x r) by rw [red.put, if_neg hlt, if_pos hm]]
        generalize red.put x r = t1 at *
        clear ihl ihr hv hl hr
        subst hm
        have hlt2 : ¬ (x < y) := hlt
        clear hlt
        go_enter Try.func61, Try.ntmps61
        go_wp2_with fail
        apply rel.region_tail (C := fun w' => Below w.heap.size w w') (X := fun w w' => Below w.heap.size w w') 9 (by kernel_rfl) (by kernel_rfl) (by kernel_rfl) (by kernel_rfl) (K.drew)
        (apply rel.walk_val; (focus (intro wq hq hf; go_wp2; refine ⟨hq, Below.refl _ _, ?_, rfl⟩; (show rel.slot _ _ = _; simp only [rel.slot_lit, List.getD_cons_succ, List.getD_cons_zero]; (first | done | exact rfl)))); (simp only [rel.put_lit, List.set_cons_succ, List.set_cons_zero]))
        (apply rel.walk_val; (focus (intro wq hq hf; go_wp2; refine ⟨hq, Below.refl _ _, ?_, rfl⟩; (show rel.slot _ _ = _; simp only [rel.slot_lit, List.getD_cons_succ, List.getD_cons_zero]; (first | done | exact rfl)))); (simp only [rel.put_lit, List.set_cons_succ, List.set_cons_zero]))
        (apply rel.walk_val; (focus (intro wq hq hf; go_wp2; refine ⟨hq, Below.refl _ _, ?_, rfl⟩; (show rel.slot _ _ = _; simp only [rel.slot_lit, List.getD_cons_succ, List.getD_cons_zero]; (first | done | exact rfl)))); (simp only [rel.put_lit, List.set_cons_succ, List.set_cons_zero]))
        ((apply rel.walk_val; (focus (intro wq hq hf; (have d0 := (hq.cell (p := ⟨g, 2, none⟩) hg).trans g2); go_wp2; refine ⟨hq, Below.refl _ _, ?_, rfl⟩; (show rel.slot _ _ = _; simp only [rel.slot_lit, List.getD_cons_succ, List.getD_cons_zero]; (first | done | exact rfl)))); (simp only [rel.put_lit, List.set_cons_succ, List.set_cons_zero])))
        (apply rel.walk_val; (focus (intro wq hq hf; go_wp2; refine ⟨hq, Below.refl _ _, ?_, rfl⟩; (show rel.slot _ _ = _; simp only [rel.slot_lit, List.getD_cons_succ, List.getD_cons_zero]; (first | done | exact rfl)))); (simp only [rel.put_lit, List.set_cons_succ, List.set_cons_zero]))
        (apply rel.walk_val; (focus (intro wq hq hf; go_wp2; refine ⟨hq, Below.refl _ _, ?_, rfl⟩; (show rel.slot _ _ = _; simp only [rel.slot_lit, List.getD_cons_succ, List.getD_cons_zero]; (first | done | exact rfl)))); (simp only [rel.put_lit, List.set_cons_succ, List.set_cons_zero]))
        (apply rel.walk_val; (focus (intro wq hq hf; go_wp2; refine ⟨hq, Below.refl _ _, ?_, rfl⟩; (show rel.slot _ _ = _; simp only [rel.slot_lit, List.getD_cons_succ, List.getD_cons_zero]; (first | done | exact rfl)))); (simp only [rel.put_lit, List.set_cons_succ, List.set_cons_zero]))
        ((apply rel.walk_val; (focus (intro wq hq hf; (have d0 := (hq.cell (p := ⟨g, 3, none⟩) hg).trans g3); go_wp2; refine ⟨hq, Below.refl _ _, ?_, rfl⟩; (show rel.slot _ _ = _; simp only [rel.slot_lit, List.getD_cons_succ, List.getD_cons_zero]; (first | done | exact rfl)))); (simp only [rel.put_lit, List.set_cons_succ, List.set_cons_zero])))
        (apply rel.walk_val; (focus (intro wq hq hf; go_wp2; refine ⟨hq, Below.refl _ _, ?_, rfl⟩; (show rel.slot _ _ = _; simp only [rel.slot_lit, List.getD_cons_succ, List.getD_cons_zero]; (first | done | exact rfl)))); (simp only [rel.put_lit, List.set_cons_succ, List.set_cons_zero]))
        refine rel.walk_nil ?_
        intro w8 K8 hF
        clear hF
        replace K := K8
        clear K8
        have f0 := (K.cell (p := ⟨g, 0, none⟩) hg).trans g0
        have f1 := (K.cell (p := ⟨g, 1, none⟩) hg).trans g1
        have hg2 := Nat.lt_of_lt_of_le hg K.size
        simp only [List.drop_succ_cons, List.drop_zero]
        go_wp2_with (first
          | (go_at_call 61; (with_reducible refine (hcl _ K).mono ?_); clear hcl; rintro e w1 ⟨⟨u, rfl, hu⟩, hb1⟩; replace K := K.trans (hb1.mono K.size); clear hb1; (obtain ⟨q, rfl, hq⟩ := hu); have f0 := (K.cell (p := ⟨g, 0, none⟩) hg).trans g0; have f1 := (K.cell (p := ⟨g, 1, none⟩) hg).trans g1; have hg2 := Nat.lt_of_lt_of_le hg K.size)
          | (go_at_call 86; (with_reducible refine (hov _ _ K hq.t).mono ?_); clear hov; rintro e w2 ⟨⟨u, rfl, hu⟩, hb1⟩; replace K := K.trans (hb1.mono K.size); clear hb1))
        go_ret
        exact ⟨⟨_, rfl, hu⟩, K⟩
      · have hcl := fun W (hW : Below w.heap.size w W) => ihr d W (hr.grow hW hW.size)
        have hov := fun W u (hW : Below w.heap.size w W) (hu : IsT W (.pointer u) (red.put x r)) => balanced_any (x := y) (w := W) ⟨_, rfl, hl.grow hW hW.size⟩ hu
        rw [show red.put x (.node y m l r) = bal y l (red.put x r) by rw [red.put, if_neg hlt, if_neg hm]]
        generalize red.put x r = t1 at *
        generalize bal y l t1 = t2 at *
        clear ihl ihr hv hl hr
        have hlt2 : ¬ (x < y) := hlt
        clear hlt
        go_enter Try.func61, Try.ntmps61
        go_wp2_with fail
        apply rel.region_tail (C := fun w' => Below w.heap.size w w') (X := fun w w' => Below w.heap.size w w') 9 (by kernel_rfl) (by kernel_rfl) (by kernel_rfl) (by kernel_rfl) (K.drew)
        (apply rel.walk_val; (focus (intro wq hq hf; go_wp2; refine ⟨hq, Below.refl _ _, ?_, rfl⟩; (show rel.slot _ _ = _; simp only [rel.slot_lit, List.getD_cons_succ, List.getD_cons_zero]; (first | done | exact rfl)))); (simp only [rel.put_lit, List.set_cons_succ, List.set_cons_zero]))
        (apply rel.walk_val; (focus (intro wq hq hf; go_wp2; refine ⟨hq, Below.refl _ _, ?_, rfl⟩; (show rel.slot _ _ = _; simp only [rel.slot_lit, List.getD_cons_succ, List.getD_cons_zero]; (first | done | exact rfl)))); (simp only [rel.put_lit, List.set_cons_succ, List.set_cons_zero]))
        (apply rel.walk_val; (focus (intro wq hq hf; go_wp2; refine ⟨hq, Below.refl _ _, ?_, rfl⟩; (show rel.slot _ _ = _; simp only [rel.slot_lit, List.getD_cons_succ, List.getD_cons_zero]; (first | done | exact rfl)))); (simp only [rel.put_lit, List.set_cons_succ, List.set_cons_zero]))
        ((apply rel.walk_val; (focus (intro wq hq hf; (have d0 := (hq.cell (p := ⟨g, 2, none⟩) hg).trans g2); go_wp2; refine ⟨hq, Below.refl _ _, ?_, rfl⟩; (show rel.slot _ _ = _; simp only [rel.slot_lit, List.getD_cons_succ, List.getD_cons_zero]; (first | done | exact rfl)))); (simp only [rel.put_lit, List.set_cons_succ, List.set_cons_zero])))
        (apply rel.walk_val; (focus (intro wq hq hf; go_wp2; refine ⟨hq, Below.refl _ _, ?_, rfl⟩; (show rel.slot _ _ = _; simp only [rel.slot_lit, List.getD_cons_succ, List.getD_cons_zero]; (first | done | exact rfl)))); (simp only [rel.put_lit, List.set_cons_succ, List.set_cons_zero]))
        (apply rel.walk_val; (focus (intro wq hq hf; go_wp2; refine ⟨hq, Below.refl _ _, ?_, rfl⟩; (show rel.slot _ _ = _; simp only [rel.slot_lit, List.getD_cons_succ, List.getD_cons_zero]; (first | done | exact rfl)))); (simp only [rel.put_lit, List.set_cons_succ, List.set_cons_zero]))
        (apply rel.walk_val; (focus (intro wq hq hf; go_wp2; refine ⟨hq, Below.refl _ _, ?_, rfl⟩; (show rel.slot _ _ = _; simp only [rel.slot_lit, List.getD_cons_succ, List.getD_cons_zero]; (first | done | exact rfl)))); (simp only [rel.put_lit, List.set_cons_succ, List.set_cons_zero]))
        ((apply rel.walk_val; (focus (intro wq hq hf; (have d0 := (hq.cell (p := ⟨g, 3, none⟩) hg).trans g3); go_wp2; refine ⟨hq, Below.refl _ _, ?_, rfl⟩; (show rel.slot _ _ = _; simp only [rel.slot_lit, List.getD_cons_succ, List.getD_cons_zero]; (first | done | exact rfl)))); (simp only [rel.put_lit, List.set_cons_succ, List.set_cons_zero])))
        (apply rel.walk_val; (focus (intro wq hq hf; go_wp2; refine ⟨hq, Below.refl _ _, ?_, rfl⟩; (show rel.slot _ _ = _; simp only [rel.slot_lit, List.getD_cons_succ, List.getD_cons_zero]; (first | done | exact rfl)))); (simp only [rel.put_lit, List.set_cons_succ, List.set_cons_zero]))
        refine rel.walk_nil ?_
        intro w8 K8 hF
        clear hF
        replace K := K8
        clear K8
        have f0 := (K.cell (p := ⟨g, 0, none⟩) hg).trans g0
        have f1 := (K.cell (p := ⟨g, 1, none⟩) hg).trans g1
        have hg2 := Nat.lt_of_lt_of_le hg K.size
        simp only [List.drop_succ_cons, List.drop_zero]
        go_wp2_with (first
          | (go_at_call 61; (with_reducible refine (hcl _ K).mono ?_); clear hcl; rintro e w1 ⟨⟨u, rfl, hu⟩, hb1⟩; replace K := K.trans (hb1.mono K.size); clear hb1; (obtain ⟨q, rfl, hq⟩ := hu); have f0 := (K.cell (p := ⟨g, 0, none⟩) hg).trans g0; have f1 := (K.cell (p := ⟨g, 1, none⟩) hg).trans g1; have hg2 := Nat.lt_of_lt_of_le hg K.size)
          | (go_at_call 87; (with_reducible refine (hov _ _ K hq.t).mono ?_); clear hov; rintro e w2 ⟨⟨u, rfl, hu⟩, hb1⟩; replace K := K.trans (hb1.mono K.size); clear hb1))
        go_ret
        exact ⟨⟨_, rfl, hu⟩, K⟩

set_option maxHeartbeats 8000000 in
theorem dl_any {x : Int} {a : Tr} : ∀ (b : Tr) (m : Int) (k : Nat) (p q : Option Addr) (w : World), IsT w (.pointer p) a → IsT w (.pointer q) b → Rb b (k + 1) →
    Calls Try.prog 73 #[.int .i64 m, .int .i64 x, .pointer p, .pointer q, .bool true] w fun e w' => (∃ u, e = .returned u ∧ IsTB w' u (dl x a m b).1 (dl x a m b).2) ∧ Below w.heap.size w w' := by
  intro b
  induction b with
  | nil => intro m k p q w _ _ h; exact absurd h (by simp [Rb])
  | node y my c d ihc ihd =>
    intro m k p q w ha hb hr
    have hi := fun W (hW : Below w.heap.size w W) (b0 : Bool) (h : b0 = decide (top (.node y my c d) = 1)) => isRed_any (b := b0) (hb.nod.grow hW hW.size) h
    have hb0 := hb
    obtain ⟨_, he, g, pc, pd, rfl, hg, hv, hc, hd⟩ := hb
    cases he
    have g0 := hv.cell 0
    have g2 := hv.cell 2
    have g3 := hv.cell 3
    simp only [List.getElem?_cons_zero, List.getElem?_cons_succ] at g0 g2 g3
    have K := Below.refl w.heap.size w
    by_cases hm : my = 1
    · subst hm
      have hi2 := fun W (hW : Below w.heap.size w W) => hi W hW true rfl
      have hcl := fun W (hW : Below w.heap.size w W) => ihc 1 k p pc W (ha.on hW) ⟨_, rfl, hc.grow hW hW.size⟩ hr.redOf.1
      have hov := fun W u (hW : Below w.heap.size w W) (hu : IsT W (.pointer u) (dl x a 1 c).1) => over_any (m := 0) (x := y) (w := W) hu ⟨_, rfl, hd.grow hW hW.size⟩
      rw [show dl x a m (.node y 1 c d) = (.node y 0 (dl x a 1 c).1 d, (dl x a 1 c).2) from rfl]
      generalize (dl x a 1 c) = z at *
      obtain ⟨t1, b1⟩ := z
      simp only at hcl hov ⊢
      clear ihc ihd hi hr hv hc hd ha hb0
      go_enter Try.func73, Try.ntmps73
      go_wp2_with (first
        | (go_at_call 90; (with_reducible refine (hi2 _ K).mono ?_); clear hi2; rintro e w1 ⟨rfl, rfl⟩)
        | (go_at_call 73; (with_reducible refine (hcl _ K).mono ?_); clear hcl; rintro e w1 ⟨⟨u, rfl, hu⟩, hb1⟩; replace K := K.trans (hb1.mono K.size); clear hb1; (obtain ⟨q1, rfl, hq1⟩ := hu); have f0 := (K.cell (p := ⟨g, 0, none⟩) hg).trans g0; have f3 := (K.cell (p := ⟨g, 3, none⟩) hg).trans g3; have hg2 := Nat.lt_of_lt_of_le hg K.size))
      apply rel.region_tail (C := fun w' => Below w1.heap.size w1 w') (X := fun w w' => Below w.heap.size w w') 12 (by kernel_rfl) (by kernel_rfl) (by kernel_rfl) (by kernel_rfl) ((Below.refl w1.heap.size w1).drew)
      (apply rel.walk_val; (focus (intro wq hq hf; go_wp2; refine ⟨hq, Below.refl _ _, ?_, rfl⟩; (show rel.slot _ _ = _; simp only [rel.slot_lit, List.getD_cons_succ, List.getD_cons_zero]; (first | done | exact rfl)))); (simp only [rel.put_lit, List.set_cons_succ, List.set_cons_zero]))
      (apply rel.walk_val; (focus (intro wq hq hf; go_wp2; refine ⟨hq, Below.refl _ _, ?_, rfl⟩; (show rel.slot _ _ = _; simp only [rel.slot_lit, List.getD_cons_succ, List.getD_cons_zero]; (first | done | exact rfl)))); (simp only [rel.put_lit, List.set_cons_succ, List.set_cons_zero]))
      (apply rel.walk_val; (focus (intro wq hq hf; go_wp2; refine ⟨hq, Below.refl _ _, ?_, rfl⟩; (show rel.slot _ _ = _; simp only [rel.slot_lit, List.getD_cons_succ, List.getD_cons_zero]; (first | done | exact rfl)))); (simp only [rel.put_lit, List.set_cons_succ, List.set_cons_zero]))
      ((apply rel.walk_val; (focus (intro wq hq hf; (have d0 := (hq.cell (p := ⟨g, 0, none⟩) hg2).trans f0); go_wp2; refine ⟨hq, Below.refl _ _, ?_, rfl⟩; (show rel.slot _ _ = _; simp only [rel.slot_lit, List.getD_cons_succ, List.getD_cons_zero]; (first | done | exact rfl)))); (simp only [rel.put_lit, List.set_cons_succ, List.set_cons_zero])))
      (apply rel.walk_val; (focus (intro wq hq hf; go_wp2; refine ⟨hq, Below.refl _ _, ?_, rfl⟩; (show rel.slot _ _ = _; simp only [rel.slot_lit, List.getD_cons_succ, List.getD_cons_zero]; (first | done | exact rfl)))); (simp only [rel.put_lit, List.set_cons_succ, List.set_cons_zero]))
      (apply rel.walk_val; (focus (intro wq hq hf; go_wp2; refine ⟨hq, Below.refl _ _, ?_, rfl⟩; (show rel.slot _ _ = _; simp only [rel.slot_lit, List.getD_cons_succ, List.getD_cons_zero]; (first | done | exact rfl)))); (simp only [rel.put_lit, List.set_cons_succ, List.set_cons_zero]))
      (apply rel.walk_val; (focus (intro wq hq hf; go_wp2; refine ⟨hq, Below.refl _ _, ?_, rfl⟩; (show rel.slot _ _ = _; simp only [rel.slot_lit, List.getD_cons_succ, List.getD_cons_zero]; (first | done | exact rfl)))); (simp only [rel.put_lit, List.set_cons_succ, List.set_cons_zero]))
      (apply rel.walk_val; (focus (intro wq hq hf; go_wp2; refine ⟨hq, Below.refl _ _, ?_, rfl⟩; (show rel.slot _ _ = _; simp only [rel.slot_lit, List.getD_cons_succ, List.getD_cons_zero]; (first | done | exact rfl)))); (simp only [rel.put_lit, List.set_cons_succ, List.set_cons_zero]))
      ((apply rel.walk_val; (focus (intro wq hq hf; (have d0 := (hq.cell (p := ⟨g, 3, none⟩) hg2).trans f3); go_wp2; refine ⟨hq, Below.refl _ _, ?_, rfl⟩; (show rel.slot _ _ = _; simp only [rel.slot_lit, List.getD_cons_succ, List.getD_cons_zero]; (first | done | exact rfl)))); (simp only [rel.put_lit, List.set_cons_succ, List.set_cons_zero])))
      (apply rel.walk_rel (fun u w' => sch.IsT w' u (.node y 0 t1 d)) ⟨_, rfl⟩ (fun u w1 w2 h1 h2 => h2.on h1); (focus (intro wq hq hf; go_wp2_with (go_at_call 86; with_reducible refine (hov _ _ (K.trans (hq.mono K.size)) (hq1.on hq)).mono ?_; rintro e w'' ⟨⟨u, rfl, hu⟩, hb⟩); refine ⟨hq.trans (hb.mono hq.size), hb, ?_, rfl⟩; (show sch.IsT _ (rel.slot _ _) _; simp only [rel.slot_lit, List.getD_cons_succ, List.getD_cons_zero]; exact hu))); (intro u wu _ hu; obtain ⟨py, rfl, -⟩ := hu; (simp only [rel.put_lit, List.set_cons_succ, List.set_cons_zero])))
      (apply rel.walk_val; (focus (intro wq hq hf; go_wp2; refine ⟨hq, Below.refl _ _, ?_, rfl⟩; (show rel.slot _ _ = _; simp only [rel.slot_lit, List.getD_cons_succ, List.getD_cons_zero]; (first | done | exact rfl)))); (simp only [rel.put_lit, List.set_cons_succ, List.set_cons_zero]))
      (apply rel.walk_rel (fun u w' => sch.IsT w' u (.node y 0 t1 d)) ⟨_, rfl⟩ (fun u w1 w2 h1 h2 => h2.on h1); (focus (intro wq hq hf; have h0 := hf.get 0 rfl rfl; go_wp2; refine ⟨hq, Below.refl _ _, ?_, rfl⟩; (show sch.IsT _ (rel.slot _ _) _; simp only [rel.slot_lit, List.getD_cons_succ, List.getD_cons_zero]; exact h0))); (intro u wu _ hu; obtain ⟨pz, rfl, -⟩ := hu; (simp only [rel.put_lit, List.set_cons_succ, List.set_cons_zero])))
      refine rel.walk_nil ?_
      intro w9 K9 hF
      have hu : IsT w9 (.pointer pz) _ := hF _ (List.mem_cons_self ..)
      clear hF
      simp only [List.drop_succ_cons, List.drop_zero]
      go_wp2
      refine bodyPost_ret (v := .tuple #[.pointer pz, .bool b1]) (by simp [results, Try.results73, go_sem]) rfl ⟨⟨_, rfl, _, rfl, hu⟩, K.trans (K9.mono K.size)⟩
    · have hi2 := fun W (hW : Below w.heap.size w W) => hi W hW false (decide_eq_false hm).symm
      have o1 := fun W (hW : Below w.heap.size w W) => painted_any (m := 1) (hb0.on hW) (by simp)
      have o2 := fun W u (hW : Below w.heap.size w W) (hu : IsT W (.pointer u) (.node y 1 c d)) => balanced_any (x := x) (w := W) (ha.on hW) hu
      have o3 := fun W u (hu : IsT W (.pointer u) (bal x a (.node y 1 c d))) => evened_any (m := m) hu
      rw [show dl x a m (.node y my c d) = evn m (bal x a (.node y 1 c d)) by unfold dl; exact if_neg hm]
      simp only [paint] at o1
      generalize (bal x a (.node y 1 c d)) = z at *
      generalize evn m z = zz at *
      obtain ⟨t1, b1⟩ := zz
      simp only at o3 ⊢
      clear ihc ihd hi hr hv hc hd ha hb0
      go_enter Try.func73, Try.ntmps73
      go_wp2_with (first
        | (go_at_call 90; (with_reducible refine (hi2 _ K).mono ?_); clear hi2; rintro e w1 ⟨rfl, rfl⟩)
        | (go_at_call 60; (with_reducible refine (o1 _ K).mono ?_); clear o1; rintro e w1 ⟨⟨u, rfl, hu⟩, hb1⟩; replace K := K.trans (hb1.mono K.size); clear hb1; (obtain ⟨q1, rfl, hq1⟩ := hu))
        | (go_at_call 87; (with_reducible refine (o2 _ _ K hq1.t).mono ?_); clear o2 hq1; rintro e w2 ⟨⟨u, rfl, hu⟩, hb1⟩; replace K := K.trans (hb1.mono K.size); clear hb1; (obtain ⟨q2, rfl, hq2⟩ := hu))
        | (go_at_call 91; (with_reducible refine (o3 _ _ hq2.t).mono ?_); clear o3 hq2; rintro e w3 ⟨⟨q3, rfl, hu⟩, hb1⟩; replace K := K.trans (hb1.mono K.size); clear hb1))
      refine bodyPost_ret (v := .tuple #[.pointer q3, .bool b1]) (by simp [results, Try.results73, go_sem]) rfl ⟨⟨_, rfl, _, rfl, hu⟩, K⟩

set_option maxHeartbeats 8000000 in
theorem DL_any {m x : Int} {a b : Tr} {n : Nat} {s : Bool} {p q : Option Addr} {w : World} (ha : IsT w (.pointer p) a) (hb : IsT w (.pointer q) b) (hr : Rb b n) (ho : Oth n s) :
    Calls Try.prog 73 #[.int .i64 m, .int .i64 x, .pointer p, .pointer q, .bool s] w fun e w' => (∃ u, e = .returned u ∧ IsTB w' u (DL m x a b s).1 (DL m x a b s).2) ∧ Below w.heap.size w w' := by
  cases s with
  | true =>
    obtain ⟨k, rfl⟩ := ho rfl
    exact dl_any _ m k p q w ha hb hr
  | false =>
    have hov := over_any (m := m) (x := x) ha hb
    show Calls _ _ _ _ fun e w' => (∃ u, e = .returned u ∧ IsTB w' u (.node x m a b) false) ∧ _
    clear ha hb hr ho
    go_enter Try.func73, Try.ntmps73
    go_wp2_with (go_at_call 86; (with_reducible refine hov.mono ?_); clear hov; rintro e w1 ⟨⟨u, rfl, hu⟩, hb1⟩; (obtain ⟨q1, rfl, hq1⟩ := hu))
    refine bodyPost_ret (v := .tuple #[.pointer q1, .bool false]) (by simp [results, Try.results73, go_sem]) rfl ⟨⟨_, rfl, _, rfl, ⟨_, rfl, hq1⟩⟩, hb1⟩

set_option maxHeartbeats 8000000 in
theorem dr_any {x : Int} {b : Tr} : ∀ (a : Tr) (m : Int) (k : Nat) (p q : Option Addr) (w : World), IsT w (.pointer p) a → IsT w (.pointer q) b → Rb a (k + 1) →
    Calls Try.prog 74 #[.int .i64 m, .int .i64 x, .pointer p, .pointer q, .bool true] w fun e w' => (∃ u, e = .returned u ∧ IsTB w' u (dr x b m a).1 (dr x b m a).2) ∧ Below w.heap.size w w' := by
  intro a
  induction a with
  | nil => intro m k p q w _ _ h; exact absurd h (by simp [Rb])
  | node y my c d ihc ihd =>
    intro m k p q w ha hb hr
    have hi := fun W (hW : Below w.heap.size w W) (b0 : Bool) (h : b0 = decide (top (.node y my c d) = 1)) => isRed_any (b := b0) (ha.nod.grow hW hW.size) h
    have ha0 := ha
    obtain ⟨_, he, g, pc, pd, rfl, hg, hv, hc, hd⟩ := ha
    cases he
    have g0 := hv.cell 0
    have g2 := hv.cell 2
    have g3 := hv.cell 3
    simp only [List.getElem?_cons_zero, List.getElem?_cons_succ] at g0 g2 g3
    have K := Below.refl w.heap.size w
    by_cases hm : my = 1
    · subst hm
      have hi2 := fun W (hW : Below w.heap.size w W) => hi W hW true rfl
      have hcl := fun W (hW : Below w.heap.size w W) => ihd 1 k pd q W ⟨_, rfl, hd.grow hW hW.size⟩ (hb.on hW) hr.redOf.2
      have hov := fun W u (hW : Below w.heap.size w W) (hu : IsT W (.pointer u) (dr x b 1 d).1) => over_any (m := 0) (x := y) (w := W) ⟨_, rfl, hc.grow hW hW.size⟩ hu
      rw [show dr x b m (.node y 1 c d) = (.node y 0 c (dr x b 1 d).1, (dr x b 1 d).2) from rfl]
      generalize (dr x b 1 d) = z at *
      obtain ⟨t1, b1⟩ := z
      simp only at hcl hov ⊢
      clear ihc ihd hi hr hv hc hd hb ha0
      go_enter Try.func74, Try.ntmps74
      go_wp2_with (first
        | (go_at_call 90; (with_reducible refine (hi2 _ K).mono ?_); clear hi2; rintro e w1 ⟨rfl, rfl⟩)
        | (go_at_call 74; (with_reducible refine (hcl _ K).mono ?_); clear hcl; rintro e w1 ⟨⟨u, rfl, hu⟩, hb1⟩; replace K := K.trans (hb1.mono K.size); clear hb1; (obtain ⟨q1, rfl, hq1⟩ := hu); have f0 := (K.cell (p := ⟨g, 0, none⟩) hg).trans g0; have f2 := (K.cell (p := ⟨g, 2, none⟩) hg).trans g2; have hg2 := Nat.lt_of_lt_of_le hg K.size))
      apply rel.region_tail (C := fun w' => Below w1.heap.size w1 w') (X := fun w w' => Below w.heap.size w w') 12 (by kernel_rfl) (by kernel_rfl) (by kernel_rfl) (by kernel_rfl) ((Below.refl w1.heap.size w1).drew)
      (apply rel.walk_val; (focus (intro wq hq hf; go_wp2; refine ⟨hq, Below.refl _ _, ?_, rfl⟩; (show rel.slot _ _ = _; simp only [rel.slot_lit, List.getD_cons_succ, List.getD_cons_zero]; (first | done | exact rfl)))); (simp only [rel.put_lit, List.set_cons_succ, List.set_cons_zero]))
      (apply rel.walk_val; (focus (intro wq hq hf; go_wp2; refine ⟨hq, Below.refl _ _, ?_, rfl⟩; (show rel.slot _ _ = _; simp only [rel.slot_lit, List.getD_cons_succ, List.getD_cons_zero]; (first | done | exact rfl)))); (simp only [rel.put_lit, List.set_cons_succ, List.set_cons_zero]))
      (apply rel.walk_val; (focus (intro wq hq hf; go_wp2; refine ⟨hq, Below.refl _ _, ?_, rfl⟩; (show rel.slot _ _ = _; simp only [rel.slot_lit, List.getD_cons_succ, List.getD_cons_zero]; (first | done | exact rfl)))); (simp only [rel.put_lit, List.set_cons_succ, List.set_cons_zero]))
      ((apply rel.walk_val; (focus (intro wq hq hf; (have d0 := (hq.cell (p := ⟨g, 0, none⟩) hg2).trans f0); go_wp2; refine ⟨hq, Below.refl _ _, ?_, rfl⟩; (show rel.slot _ _ = _; simp only [rel.slot_lit, List.getD_cons_succ, List.getD_cons_zero]; (first | done | exact rfl)))); (simp only [rel.put_lit, List.set_cons_succ, List.set_cons_zero])))
      (apply rel.walk_val; (focus (intro wq hq hf; go_wp2; refine ⟨hq, Below.refl _ _, ?_, rfl⟩; (show rel.slot _ _ = _; simp only [rel.slot_lit, List.getD_cons_succ, List.getD_cons_zero]; (first | done | exact rfl)))); (simp only [rel.put_lit, List.set_cons_succ, List.set_cons_zero]))
      (apply rel.walk_val; (focus (intro wq hq hf; go_wp2; refine ⟨hq, Below.refl _ _, ?_, rfl⟩; (show rel.slot _ _ = _; simp only [rel.slot_lit, List.getD_cons_succ, List.getD_cons_zero]; (first | done | exact rfl)))); (simp only [rel.put_lit, List.set_cons_succ, List.set_cons_zero]))
      (apply rel.walk_val; (focus (intro wq hq hf; go_wp2; refine ⟨hq, Below.refl _ _, ?_, rfl⟩; (show rel.slot _ _ = _; simp only [rel.slot_lit, List.getD_cons_succ, List.getD_cons_zero]; (first | done | exact rfl)))); (simp only [rel.put_lit, List.set_cons_succ, List.set_cons_zero]))
      ((apply rel.walk_val; (focus (intro wq hq hf; (have d0 := (hq.cell (p := ⟨g, 2, none⟩) hg2).trans f2); go_wp2; refine ⟨hq, Below.refl _ _, ?_, rfl⟩; (show rel.slot _ _ = _; simp only [rel.slot_lit, List.getD_cons_succ, List.getD_cons_zero]; (first | done | exact rfl)))); (simp only [rel.put_lit, List.set_cons_succ, List.set_cons_zero])))
      (apply rel.walk_val; (focus (intro wq hq hf; go_wp2; refine ⟨hq, Below.refl _ _, ?_, rfl⟩; (show rel.slot _ _ = _; simp only [rel.slot_lit, List.getD_cons_succ, List.getD_cons_zero]; (first | done | exact rfl)))); (simp only [rel.put_lit, List.set_cons_succ, List.set_cons_zero]))
      (apply rel.walk_rel (fun u w' => sch.IsT w' u (.node y 0 c t1)) ⟨_, rfl⟩ (fun u w1 w2 h1 h2 => h2.on h1); (focus (intro wq hq hf; go_wp2_with (go_at_call 86; with_reducible refine (hov _ _ (K.trans (hq.mono K.size)) (hq1.on hq)).mono ?_; rintro e w'' ⟨⟨u, rfl, hu⟩, hb⟩); refine ⟨hq.trans (hb.mono hq.size), hb, ?_, rfl⟩; (show sch.IsT _ (rel.slot _ _) _; simp only [rel.slot_lit, List.getD_cons_succ, List.getD_cons_zero]; exact hu))); (intro u wu _ hu; obtain ⟨py, rfl, -⟩ := hu; (simp only [rel.put_lit, List.set_cons_succ, List.set_cons_zero])))
      (apply rel.walk_val; (focus (intro wq hq hf; go_wp2; refine ⟨hq, Below.refl _ _, ?_, rfl⟩; (show rel.slot _ _ = _; simp only [rel.slot_lit, List.getD_cons_succ, List.getD_cons_zero]; (first | done | exact rfl)))); (simp only [rel.put_lit, List.set_cons_succ, List.set_cons_zero]))
      (apply rel.walk_rel (fun u w' => sch.IsT w' u (.node y 0 c t1)) ⟨_, rfl⟩ (fun u w1 w2 h1 h2 => h2.on h1); (focus (intro wq hq hf; have h0 := hf.get 0 rfl rfl; go_wp2; refine ⟨hq, Below.refl _ _, ?_, rfl⟩; (show sch.IsT _ (rel.slot _ _) _; simp only [rel.slot_lit, List.getD_cons_succ, List.getD_cons_zero]; exact h0))); (intro u wu _ hu; obtain ⟨pz, rfl, -⟩ := hu; (simp only [rel.put_lit, List.set_cons_succ, List.set_cons_zero])))
      refine rel.walk_nil ?_
      intro w9 K9 hF
      have hu : IsT w9 (.pointer pz) _ := hF _ (List.mem_cons_self ..)
      clear hF
      simp only [List.drop_succ_cons, List.drop_zero]
      go_wp2
      refine bodyPost_ret (v := .tuple #[.pointer pz, .bool b1]) (by simp [results, Try.results74, go_sem]) rfl ⟨⟨_, rfl, _, rfl, hu⟩, K.trans (K9.mono K.size)⟩
    · have hi2 := fun W (hW : Below w.heap.size w W) => hi W hW false (decide_eq_false hm).symm
      have o1 := fun W (hW : Below w.heap.size w W) => painted_any (m := 1) (ha0.on hW) (by simp)
      have o2 := fun W u (hW : Below w.heap.size w W) (hu : IsT W (.pointer u) (.node y 1 c d)) => balanced_any (x := x) (w := W) hu (hb.on hW)
      have o3 := fun W u (hu : IsT W (.pointer u) (bal x (.node y 1 c d) b)) => evened_any (m := m) hu
      rw [show dr x b m (.node y my c d) = evn m (bal x (.node y 1 c d) b) by unfold dr; exact if_neg hm]
      simp only [paint] at o1
      generalize (bal x (.node y 1 c d) b) = z at *
      generalize evn m z = zz at *
      obtain ⟨t1, b1⟩ := zz
      simp only at o3 ⊢
      clear ihc ihd hi hr hv hc hd hb ha0
      go_enter Try.func74, Try.ntmps74
      go_wp2_with (first
        | (go_at_call 90; (with_reducible refine (hi2 _ K).mono ?_); clear hi2; rintro e w1 ⟨rfl, rfl⟩)
        | (go_at_call 60; (with_reducible refine (o1 _ K).mono ?_); clear o1; rintro e w1 ⟨⟨u, rfl, hu⟩, hb1⟩; replace K := K.trans (hb1.mono K.size); clear hb1; (obtain ⟨q1, rfl, hq1⟩ := hu))
        | (go_at_call 87; (with_reducible refine (o2 _ _ K hq1.t).mono ?_); clear o2 hq1; rintro e w2 ⟨⟨u, rfl, hu⟩, hb1⟩; replace K := K.trans (hb1.mono K.size); clear hb1; (obtain ⟨q2, rfl, hq2⟩ := hu))
        | (go_at_call 91; (with_reducible refine (o3 _ _ hq2.t).mono ?_); clear o3 hq2; rintro e w3 ⟨⟨q3, rfl, hu⟩, hb1⟩; replace K := K.trans (hb1.mono K.size); clear hb1))
      refine bodyPost_ret (v := .tuple #[.pointer q3, .bool b1]) (by simp [results, Try.results74, go_sem]) rfl ⟨⟨_, rfl, _, rfl, hu⟩, K⟩

set_option maxHeartbeats 8000000 in
theorem DR_any {m x : Int} {a b : Tr} {n : Nat} {s : Bool} {p q : Option Addr} {w : World} (ha : IsT w (.pointer p) a) (hb : IsT w (.pointer q) b) (hr : Rb a n) (ho : Oth n s) :
    Calls Try.prog 74 #[.int .i64 m, .int .i64 x, .pointer p, .pointer q, .bool s] w fun e w' => (∃ u, e = .returned u ∧ IsTB w' u (DR m x a b s).1 (DR m x a b s).2) ∧ Below w.heap.size w w' := by
  cases s with
  | true =>
    obtain ⟨k, rfl⟩ := ho rfl
    exact dr_any _ m k p q w ha hb hr
  | false =>
    have hov := over_any (m := m) (x := x) ha hb
    show Calls _ _ _ _ fun e w' => (∃ u, e = .returned u ∧ IsTB w' u (.node x m a b) false) ∧ _
    clear ha hb hr ho
    go_enter Try.func74, Try.ntmps74
    go_wp2_with (go_at_call 86; (with_reducible refine hov.mono ?_); clear hov; rintro e w1 ⟨⟨u, rfl, hu⟩, hb1⟩; (obtain ⟨q1, rfl, hq1⟩ := hu))
    refine bodyPost_ret (v := .tuple #[.pointer q1, .bool false]) (by simp [results, Try.results74, go_sem]) rfl ⟨⟨_, rfl, _, rfl, ⟨_, rfl, hq1⟩⟩, hb1⟩

set_option maxHeartbeats 8000000 in
theorem drop_any : ∀ (t : Tr) (x : Int) (n : Nat) (p : Option Addr) (w : World), Nod w.heap.size w t p → Rb t n → Asc (keys t) → x ∈ keys t →
    Calls Try.prog 55 #[.pointer p, .int .i64 x] w fun e w' => (∃ u, e = .returned u ∧ IsTB w' u (red.drop t x).1 (red.drop t x).2) ∧ Below w.heap.size w w' := by
  intro t
  induction t with
  | nil =>
    intro x n p w _ _ _ hx
    simp [keys] at hx
  | node y m l r ihl ihr =>
    rintro x n p w ⟨g, c, d, rfl, hg, hv, hl, hr⟩ hrb ha hx
    obtain ⟨hm01, k, -, kl, kr, hcol⟩ := hrb
    have g0 := hv.cell 0
    have g1 := hv.cell 1
    have g2 := hv.cell 2
    have g3 := hv.cell 3
    simp only [List.getElem?_cons_zero, List.getElem?_cons_succ] at g0 g1 g2 g3
    simp only [keys] at ha hx
    obtain ⟨hal, har, -, -⟩ := asc_node.1 ha
    have K := Below.refl w.heap.size w
    by_cases hlt : x < y
    · have hmem := (sch.mem_left ha hlt).1 hx
      have hcl := fun W (hW : Below w.heap.size w W) => ihl x k c W (hl.grow hW hW.size) kl hal hmem
      have hot := (drop_fit kl hal hmem).1.oth
      have hbl := fun W q (hW : Below w.heap.size w W) (hu : IsT W (.pointer q) (red.drop l x).1) => DL_any (m := m) (x := y) (w := W) hu ⟨_, rfl, hr.grow hW hW.size⟩ kr hot
      rw [show red.drop (.node y m l r) x = DL m y (red.drop l x).1 r (red.drop l x).2 by rw [red.drop, if_pos hlt]]
      generalize red.drop l x = z at *
      obtain ⟨t1, b1⟩ := z
      simp only at hcl hbl ⊢
      generalize DL m y t1 r b1 = zz at *
      obtain ⟨t2, b2⟩ := zz
      simp only at hbl ⊢
      clear ihl ihr hv hl hr kl kr ha hx hal har hmem hcol hm01 hot
      go_enter Try.func55, Try.ntmps55
      go_wp2_with (go_at_call 55; (with_reducible refine (hcl _ K).mono ?_); clear hcl; rintro e w1 ⟨⟨u, rfl, hu⟩, hb1⟩; replace K := K.trans (hb1.mono K.size); clear hb1; (obtain ⟨q1, rfl, hq1⟩ := hu); have f0 := (K.cell (p := ⟨g, 0, none⟩) hg).trans g0; have f1 := (K.cell (p := ⟨g, 1, none⟩) hg).trans g1; have f2 := (K.cell (p := ⟨g, 2, none⟩) hg).trans g2; have f3 := (K.cell (p := ⟨g, 3, none⟩) hg).trans g3; have hg2 := Nat.lt_of_lt_of_le hg K.size)
      apply rel.region_tail (C := fun w' => Below w1.heap.size w1 w') (X := fun w w' => Below w.heap.size w w') 18 (by kernel_rfl) (by kernel_rfl) (by kernel_rfl) (by kernel_rfl) ((Below.refl w1.heap.size w1).drew)
      (apply rel.walk_val; (focus (intro wq hq hf; go_wp2; refine ⟨hq, Below.refl _ _, ?_, rfl⟩; (show rel.slot _ _ = _; simp only [rel.slot_lit, List.getD_cons_succ, List.getD_cons_zero]; (first | done | exact rfl)))); (simp only [rel.put_lit, List.set_cons_succ, List.set_cons_zero]))
      (apply rel.walk_val; (focus (intro wq hq hf; go_wp2; refine ⟨hq, Below.refl _ _, ?_, rfl⟩; (show rel.slot _ _ = _; simp only [rel.slot_lit, List.getD_cons_succ, List.getD_cons_zero]; (first | done | exact rfl)))); (simp only [rel.put_lit, List.set_cons_succ, List.set_cons_zero]))
      (apply rel.walk_val; (focus (intro wq hq hf; go_wp2; refine ⟨hq, Below.refl _ _, ?_, rfl⟩; (show rel.slot _ _ = _; simp only [rel.slot_lit, List.getD_cons_succ, List.getD_cons_zero]; (first | done | exact rfl)))); (simp only [rel.put_lit, List.set_cons_succ, List.set_cons_zero]))
      ((apply rel.walk_val; (focus (intro wq hq hf; (have d0 := (hq.cell (p := ⟨g, 1, none⟩) hg2).trans f1); go_wp2; refine ⟨hq, Below.refl _ _, ?_, rfl⟩; (show rel.slot _ _ = _; simp only [rel.slot_lit, List.getD_cons_succ, List.getD_cons_zero]; (first | done | exact rfl)))); (simp only [rel.put_lit, List.set_cons_succ, List.set_cons_zero])))
      (apply rel.walk_val; (focus (intro wq hq hf; go_wp2; refine ⟨hq, Below.refl _ _, ?_, rfl⟩; (show rel.slot _ _ = _; simp only [rel.slot_lit, List.getD_cons_succ, List.getD_cons_zero]; (first | done | exact rfl)))); (simp only [rel.put_lit, List.set_cons_succ, List.set_cons_zero]))
      (apply rel.walk_val; (focus (intro wq hq hf; go_wp2; refine ⟨hq, Below.refl _ _, ?_, rfl⟩; (show rel.slot _ _ = _; simp only [rel.slot_lit, List.getD_cons_succ, List.getD_cons_zero]; (first | done | exact rfl)))); (simp only [rel.put_lit, List.set_cons_succ, List.set_cons_zero]))
      (apply rel.walk_val; (focus (intro wq hq hf; go_wp2; refine ⟨hq, Below.refl _ _, ?_, rfl⟩; (show rel.slot _ _ = _; simp only [rel.slot_lit, List.getD_cons_succ, List.getD_cons_zero]; (first | done | exact rfl)))); (simp only [rel.put_lit, List.set_cons_succ, List.set_cons_zero]))
      ((apply rel.walk_val; (focus (intro wq hq hf; (have d0 := (hq.cell (p := ⟨g, 0, none⟩) hg2).trans f0); go_wp2; refine ⟨hq, Below.refl _ _, ?_, rfl⟩; (show rel.slot _ _ = _; simp only [rel.slot_lit, List.getD_cons_succ, List.getD_cons_zero]; (first | done | exact rfl)))); (simp only [rel.put_lit, List.set_cons_succ, List.set_cons_zero])))
      (apply rel.walk_val; (focus (intro wq hq hf; go_wp2; refine ⟨hq, Below.refl _ _, ?_, rfl⟩; (show rel.slot _ _ = _; simp only [rel.slot_lit, List.getD_cons_succ, List.getD_cons_zero]; (first | done | exact rfl)))); (simp only [rel.put_lit, List.set_cons_succ, List.set_cons_zero]))
      (apply rel.walk_val; (focus (intro wq hq hf; go_wp2; refine ⟨hq, Below.refl _ _, ?_, rfl⟩; (show rel.slot _ _ = _; simp only [rel.slot_lit, List.getD_cons_succ, List.getD_cons_zero]; (first | done | exact rfl)))); (simp only [rel.put_lit, List.set_cons_succ, List.set_cons_zero]))
      (apply rel.walk_val; (focus (intro wq hq hf; go_wp2; refine ⟨hq, Below.refl _ _, ?_, rfl⟩; (show rel.slot _ _ = _; simp only [rel.slot_lit, List.getD_cons_succ, List.getD_cons_zero]; (first | done | exact rfl)))); (simp only [rel.put_lit, List.set_cons_succ, List.set_cons_zero]))
      (apply rel.walk_val; (focus (intro wq hq hf; go_wp2; refine ⟨hq, Below.refl _ _, ?_, rfl⟩; (show rel.slot _ _ = _; simp only [rel.slot_lit, List.getD_cons_succ, List.getD_cons_zero]; (first | done | exact rfl)))); (simp only [rel.put_lit, List.set_cons_succ, List.set_cons_zero]))
      ((apply rel.walk_val; (focus (intro wq hq hf; (have d0 := (hq.cell (p := ⟨g, 3, none⟩) hg2).trans f3); go_wp2; refine ⟨hq, Below.refl _ _, ?_, rfl⟩; (show rel.slot _ _ = _; simp only [rel.slot_lit, List.getD_cons_succ, List.getD_cons_zero]; (first | done | exact rfl)))); (simp only [rel.put_lit, List.set_cons_succ, List.set_cons_zero])))
      (apply rel.walk_val; (focus (intro wq hq hf; go_wp2; refine ⟨hq, Below.refl _ _, ?_, rfl⟩; (show rel.slot _ _ = _; simp only [rel.slot_lit, List.getD_cons_succ, List.getD_cons_zero]; (first | done | exact rfl)))); (simp only [rel.put_lit, List.set_cons_succ, List.set_cons_zero]))
      (apply rel.walk_rel (fun u w' => red.IsTB w' u (t2) (b2)) ⟨_, rfl⟩ (fun u w1 w2 h1 h2 => h2.on h1); (focus (intro wq hq hf; go_wp2_with (go_at_call 73; with_reducible refine (hbl _ _ (K.trans (hq.mono K.size)) (hq1.on hq)).mono ?_; rintro e w'' ⟨⟨u, rfl, hu⟩, hb⟩); refine ⟨hq.trans (hb.mono hq.size), hb, ?_, rfl⟩; (show red.IsTB _ (rel.slot _ _) _ _; simp only [rel.slot_lit, List.getD_cons_succ, List.getD_cons_zero]; exact hu))); (intro u wu _ hu; obtain ⟨pz, rfl, -⟩ := hu; (simp only [rel.put_lit, List.set_cons_succ, List.set_cons_zero])))
      (apply rel.walk_rel (fun u w' => sch.IsT w' u (t2)) ⟨_, rfl⟩ (fun u w1 w2 h1 h2 => h2.on h1); (focus (intro wq hq hf; (obtain ⟨q', he, h0⟩ := hf.get 0 rfl rfl); cases he; go_wp2; refine ⟨hq, Below.refl _ _, ?_, rfl⟩; (show sch.IsT _ (rel.slot _ _) _; simp only [rel.slot_lit, List.getD_cons_succ, List.getD_cons_zero]; exact h0))); (intro u wu _ hu; obtain ⟨pe, rfl, -⟩ := hu; (simp only [rel.put_lit, List.set_cons_succ, List.set_cons_zero])))
      (apply rel.walk_val; (focus (intro wq hq hf; go_wp2; refine ⟨hq, Below.refl _ _, ?_, rfl⟩; (show rel.slot _ _ = _; simp only [rel.slot_lit, List.getD_cons_succ, List.getD_cons_zero]; (first | done | exact rfl)))); (simp only [rel.put_lit, List.set_cons_succ, List.set_cons_zero]))
      (apply rel.walk_rel (fun u w' => sch.IsT w' u (t2)) ⟨_, rfl⟩ (fun u w1 w2 h1 h2 => h2.on h1); (focus (intro wq hq hf; have h0 := hf.get 0 rfl rfl; go_wp2; refine ⟨hq, Below.refl _ _, ?_, rfl⟩; (show sch.IsT _ (rel.slot _ _) _; simp only [rel.slot_lit, List.getD_cons_succ, List.getD_cons_zero]; exact h0))); (intro u wu _ hu; obtain ⟨pf, rfl, -⟩ := hu; (simp only [rel.put_lit, List.set_cons_succ, List.set_cons_zero])))
      refine rel.walk_nil ?_
      intro w9 K9 hF
      have hu9 : IsT w9 (.pointer pf) t2 := hF _ (List.mem_cons_self ..)
      clear hF
      simp only [List.drop_succ_cons, List.drop_zero]
      go_wp2
      refine bodyPost_ret (v := .tuple #[.pointer pf, .bool b2]) (by simp [results, Try.results55, go_sem]) rfl ⟨⟨_, rfl, _, rfl, hu9⟩, K.trans (K9.mono K.size)⟩
    have hlt0 := hlt
    clear hlt
    by_cases hlt : y < x
    · have hmem := (sch.mem_right ha hlt).1 hx
      have hcl := fun W (hW : Below w.heap.size w W) => ihr x k d W (hr.grow hW hW.size) kr har hmem
      have hot := (drop_fit kr har hmem).1.oth
      have hbl := fun W q (hW : Below w.heap.size w W) (hu : IsT W (.pointer q) (red.drop r x).1) => DR_any (m := m) (x := y) (w := W) ⟨_, rfl, hl.grow hW hW.size⟩ hu kl hot
      rw [show red.drop (.node y m l r) x = DR m y l (red.drop r x).1 (red.drop r x).2 by rw [red.drop, if_neg hlt0, if_pos hlt]]
      generalize red.drop r x = z at *
      obtain ⟨t1, b1⟩ := z
      simp only at hcl hbl ⊢
      generalize DR m y l t1 b1 = zz at *
      obtain ⟨t2, b2⟩ := zz
      simp only at hbl ⊢
      clear ihl ihr hv hl hr kl kr ha hx hal har hmem hcol hm01 hot
      go_enter Try.func55, Try.ntmps55
      go_wp2_with (go_at_call 55; (with_reducible refine (hcl _ K).mono ?_); clear hcl; rintro e w1 ⟨⟨u, rfl, hu⟩, hb1⟩; replace K := K.trans (hb1.mono K.size); clear hb1; (obtain ⟨q1, rfl, hq1⟩ := hu); have f0 := (K.cell (p := ⟨g, 0, none⟩) hg).trans g0; have f1 := (K.cell (p := ⟨g, 1, none⟩) hg).trans g1; have f2 := (K.cell (p := ⟨g, 2, none⟩) hg).trans g2; have f3 := (K.cell (p := ⟨g, 3, none⟩) hg).trans g3; have hg2 := Nat.lt_of_lt_of_le hg K.size)
      apply rel.region_tail (C := fun w' => Below w1.heap.size w1 w') (X := fun w w' => Below w.heap.size w w') 18 (by kernel_rfl) (by kernel_rfl) (by kernel_rfl) (by kernel_rfl) ((Below.refl w1.heap.size w1).drew)
      (apply rel.walk_val; (focus (intro wq hq hf; go_wp2; refine ⟨hq, Below.refl _ _, ?_, rfl⟩; (show rel.slot _ _ = _; simp only [rel.slot_lit, List.getD_cons_succ, List.getD_cons_zero]; (first | done | exact rfl)))); (simp only [rel.put_lit, List.set_cons_succ, List.set_cons_zero]))
      (apply rel.walk_val; (focus (intro wq hq hf; go_wp2; refine ⟨hq, Below.refl _ _, ?_, rfl⟩; (show rel.slot _ _ = _; simp only [rel.slot_lit, List.getD_cons_succ, List.getD_cons_zero]; (first | done | exact rfl)))); (simp only [rel.put_lit, List.set_cons_succ, List.set_cons_zero]))
      (apply rel.walk_val; (focus (intro wq hq hf; go_wp2; refine ⟨hq, Below.refl _ _, ?_, rfl⟩; (show rel.slot _ _ = _; simp only [rel.slot_lit, List.getD_cons_succ, List.getD_cons_zero]; (first | done | exact rfl)))); (simp only [rel.put_lit, List.set_cons_succ, List.set_cons_zero]))
      ((apply rel.walk_val; (focus (intro wq hq hf; (have d0 := (hq.cell (p := ⟨g, 1, none⟩) hg2).trans f1); go_wp2; refine ⟨hq, Below.refl _ _, ?_, rfl⟩; (show rel.slot _ _ = _; simp only [rel.slot_lit, List.getD_cons_succ, List.getD_cons_zero]; (first | done | exact rfl)))); (simp only [rel.put_lit, List.set_cons_succ, List.set_cons_zero])))
      (apply rel.walk_val; (focus (intro wq hq hf; go_wp2; refine ⟨hq, Below.refl _ _, ?_, rfl⟩; (show rel.slot _ _ = _; simp only [rel.slot_lit, List.getD_cons_succ, List.getD_cons_zero]; (first | done | exact rfl)))); (simp only [rel.put_lit, List.set_cons_succ, List.set_cons_zero]))
      (apply rel.walk_val; (focus (intro wq hq hf; go_wp2; refine ⟨hq, Below.refl _ _, ?_, rfl⟩; (show rel.slot _ _ = _; simp only [rel.slot_lit, List.getD_cons_succ, List.getD_cons_zero]; (first | done | exact rfl)))); (simp only [rel.put_lit, List.set_cons_succ, List.set_cons_zero]))
      (apply rel.walk_val; (focus (intro wq hq hf; go_wp2; refine ⟨hq, Below.refl _ _, ?_, rfl⟩; (show rel.slot _ _ = _; simp only [rel.slot_lit, List.getD_cons_succ, List.getD_cons_zero]; (first | done | exact rfl)))); (simp only [rel.put_lit, List.set_cons_succ, List.set_cons_zero]))
      ((apply rel.walk_val; (focus (intro wq hq hf; (have d0 := (hq.cell (p := ⟨g, 0, none⟩) hg2).trans f0); go_wp2; refine ⟨hq, Below.refl _ _, ?_, rfl⟩; (show rel.slot _ _ = _; simp only [rel.slot_lit, List.getD_cons_succ, List.getD_cons_zero]; (first | done | exact rfl)))); (simp only [rel.put_lit, List.set_cons_succ, List.set_cons_zero])))
      (apply rel.walk_val; (focus (intro wq hq hf; go_wp2; refine ⟨hq, Below.refl _ _, ?_, rfl⟩; (show rel.slot _ _ = _; simp only [rel.slot_lit, List.getD_cons_succ, List.getD_cons_zero]; (first | done | exact rfl)))); (simp only [rel.put_lit, List.set_cons_succ, List.set_cons_zero]))
      (apply rel.walk_val; (focus (intro wq hq hf; go_wp2; refine ⟨hq, Below.refl _ _, ?_, rfl⟩; (show rel.slot _ _ = _; simp only [rel.slot_lit, List.getD_cons_succ, List.getD_cons_zero]; (first | done | exact rfl)))); (simp only [rel.put_lit, List.set_cons_succ, List.set_cons_zero]))
      (apply rel.walk_val; (focus (intro wq hq hf; go_wp2; refine ⟨hq, Below.refl _ _, ?_, rfl⟩; (show rel.slot _ _ = _; simp only [rel.slot_lit, List.getD_cons_succ, List.getD_cons_zero]; (first | done | exact rfl)))); (simp only [rel.put_lit, List.set_cons_succ, List.set_cons_zero]))
      ((apply rel.walk_val; (focus (intro wq hq hf; (have d0 := (hq.cell (p := ⟨g, 2, none⟩) hg2).trans f2); go_wp2; refine ⟨hq, Below.refl _ _, ?_, rfl⟩; (show rel.slot _ _ = _; simp only [rel.slot_lit, List.getD_cons_succ, List.getD_cons_zero]; (first | done | exact rfl)))); (simp only [rel.put_lit, List.set_cons_succ, List.set_cons_zero])))
      (apply rel.walk_val; (focus (intro wq hq hf; go_wp2; refine ⟨hq, Below.refl _ _, ?_, rfl⟩; (show rel.slot _ _ = _; simp only [rel.slot_lit, List.getD_cons_succ, List.getD_cons_zero]; (first | done | exact rfl)))); (simp only [rel.put_lit, List.set_cons_succ, List.set_cons_zero]))
      (apply rel.walk_val; (focus (intro wq hq hf; go_wp2; refine ⟨hq, Below.refl _ _, ?_, rfl⟩; (show rel.slot _ _ = _; simp only [rel.slot_lit, List.getD_cons_succ, List.getD_cons_zero]; (first | done | exact rfl)))); (simp only [rel.put_lit, List.set_cons_succ, List.set_cons_zero]))
      (apply rel.walk_rel (fun u w' => red.IsTB w' u (t2) (b2)) ⟨_, rfl⟩ (fun u w1 w2 h1 h2 => h2.on h1); (focus (intro wq hq hf; go_wp2_with (go_at_call 74; with_reducible refine (hbl _ _ (K.trans (hq.mono K.size)) (hq1.on hq)).mono ?_; rintro e w'' ⟨⟨u, rfl, hu⟩, hb⟩); refine ⟨hq.trans (hb.mono hq.size), hb, ?_, rfl⟩; (show red.IsTB _ (rel.slot _ _) _ _; simp only [rel.slot_lit, List.getD_cons_succ, List.getD_cons_zero]; exact hu))); (intro u wu _ hu; obtain ⟨pz, rfl, -⟩ := hu; (simp only [rel.put_lit, List.set_cons_succ, List.set_cons_zero])))
      (apply rel.walk_rel (fun u w' => sch.IsT w' u (t2)) ⟨_, rfl⟩ (fun u w1 w2 h1 h2 => h2.on h1); (focus (intro wq hq hf; (obtain ⟨q', he, h0⟩ := hf.get 0 rfl rfl); cases he; go_wp2; refine ⟨hq, Below.refl _ _, ?_, rfl⟩; (show sch.IsT _ (rel.slot _ _) _; simp only [rel.slot_lit, List.getD_cons_succ, List.getD_cons_zero]; exact h0))); (intro u wu _ hu; obtain ⟨pe, rfl, -⟩ := hu; (simp only [rel.put_lit, List.set_cons_succ, List.set_cons_zero])))
      (apply rel.walk_val; (focus (intro wq hq hf; go_wp2; refine ⟨hq, Below.refl _ _, ?_, rfl⟩; (show rel.slot _ _ = _; simp only [rel.slot_lit, List.getD_cons_succ, List.getD_cons_zero]; (first | done | exact rfl)))); (simp only [rel.put_lit, List.set_cons_succ, List.set_cons_zero]))
      (apply rel.walk_rel (fun u w' => sch.IsT w' u (t2)) ⟨_, rfl⟩ (fun u w1 w2 h1 h2 => h2.on h1); (focus (intro wq hq hf; have h0 := hf.get 0 rfl rfl; go_wp2; refine ⟨hq, Below.refl _ _, ?_, rfl⟩; (show sch.IsT _ (rel.slot _ _) _; simp only [rel.slot_lit, List.getD_cons_succ, List.getD_cons_zero]; exact h0))); (intro u wu _ hu; obtain ⟨pf, rfl, -⟩ := hu; (simp only [rel.put_lit, List.set_cons_succ, List.set_cons_zero])))
      refine rel.walk_nil ?_
      intro w9 K9 hF
      have hu9 : IsT w9 (.pointer pf) t2 := hF _ (List.mem_cons_self ..)
      clear hF
      simp only [List.drop_succ_cons, List.drop_zero]
      go_wp2
      refine bodyPost_ret (v := .tuple #[.pointer pf, .bool b2]) (by simp [results, Try.results55, go_sem]) rfl ⟨⟨_, rfl, _, rfl, hu9⟩, K.trans (K9.mono K.size)⟩
    obtain rfl : x = y := by omega
    clear hlt hlt0
    by_cases er : r ≠ .nil
    · obtain ⟨h2, rfl, -⟩ := hr.some er
      obtain ⟨z, tl, hz⟩ := keys_ne er
      have hmem : z ∈ keys r := by rw [hz]; simp
      have hle := fun W (hW : Below w.heap.size w W) => least_any (z := z) (hr.grow hW hW.size) (by rw [hz]; rfl)
      have hcl := fun W (hW : Below w.heap.size w W) => ihr z k (some ⟨h2, 0, none⟩) W (hr.grow hW hW.size) kr har hmem
      have hot := (drop_fit kr har hmem).1.oth
      have hbl := fun W q (hW : Below w.heap.size w W) (hu : IsT W (.pointer q) (red.drop r z).1) => DR_any (m := m) (x := z) (w := W) ⟨_, rfl, hl.grow hW hW.size⟩ hu kl hot
      rw [show red.drop (.node x m l r) x = DR m z l (red.drop r z).1 (red.drop r z).2 by rw [red.drop, if_neg (by omega), if_neg (by omega), hz, if_pos (by simp)]; rfl]
      generalize red.drop r z = z1 at *
      obtain ⟨t1, b1⟩ := z1
      simp only at hcl hbl ⊢
      generalize DR m z l t1 b1 = zz at *
      obtain ⟨t2, b2⟩ := zz
      simp only at hbl ⊢
      clear ihl ihr hv hl hr kl kr ha hx hal har hmem hcol hm01 hot hz er
      go_enter Try.func55, Try.ntmps55
      go_wp2_with (first
        | (go_at_call 63; (with_reducible refine (hle _ K).mono ?_); clear hle; rintro e w0 ⟨rfl, hb1⟩; replace K := K.trans (hb1.mono K.size); clear hb1; have f0 := (K.cell (p := ⟨g, 0, none⟩) hg).trans g0; have f1 := (K.cell (p := ⟨g, 1, none⟩) hg).trans g1; have f2 := (K.cell (p := ⟨g, 2, none⟩) hg).trans g2; have f3 := (K.cell (p := ⟨g, 3, none⟩) hg).trans g3; have hg2 := Nat.lt_of_lt_of_le hg K.size)
        | (go_at_call 55; (with_reducible refine (hcl _ K).mono ?_); clear hcl; rintro e w1 ⟨⟨u, rfl, hu⟩, hb1⟩; replace K := K.trans (hb1.mono K.size); clear hb1 hg2 f0 f1 f2 f3; (obtain ⟨q1, rfl, hq1⟩ := hu); have f0 := (K.cell (p := ⟨g, 0, none⟩) hg).trans g0; have f1 := (K.cell (p := ⟨g, 1, none⟩) hg).trans g1; have f2 := (K.cell (p := ⟨g, 2, none⟩) hg).trans g2; have f3 := (K.cell (p := ⟨g, 3, none⟩) hg).trans g3; have hg2 := Nat.lt_of_lt_of_le hg K.size))
      apply rel.region_tail (C := fun w' => Below w1.heap.size w1 w') (X := fun w w' => Below w.heap.size w w') 15 (by kernel_rfl) (by kernel_rfl) (by kernel_rfl) (by kernel_rfl) ((Below.refl w1.heap.size w1).drew)
      (apply rel.walk_val; (focus (intro wq hq hf; go_wp2; refine ⟨hq, Below.refl _ _, ?_, rfl⟩; (show rel.slot _ _ = _; simp only [rel.slot_lit, List.getD_cons_succ, List.getD_cons_zero]; (first | done | exact rfl)))); (simp only [rel.put_lit, List.set_cons_succ, List.set_cons_zero]))
      (apply rel.walk_val; (focus (intro wq hq hf; go_wp2; refine ⟨hq, Below.refl _ _, ?_, rfl⟩; (show rel.slot _ _ = _; simp only [rel.slot_lit, List.getD_cons_succ, List.getD_cons_zero]; (first | done | exact rfl)))); (simp only [rel.put_lit, List.set_cons_succ, List.set_cons_zero]))
      (apply rel.walk_val; (focus (intro wq hq hf; go_wp2; refine ⟨hq, Below.refl _ _, ?_, rfl⟩; (show rel.slot _ _ = _; simp only [rel.slot_lit, List.getD_cons_succ, List.getD_cons_zero]; (first | done | exact rfl)))); (simp only [rel.put_lit, List.set_cons_succ, List.set_cons_zero]))
      ((apply rel.walk_val; (focus (intro wq hq hf; (have d0 := (hq.cell (p := ⟨g, 1, none⟩) hg2).trans f1); go_wp2; refine ⟨hq, Below.refl _ _, ?_, rfl⟩; (show rel.slot _ _ = _; simp only [rel.slot_lit, List.getD_cons_succ, List.getD_cons_zero]; (first | done | exact rfl)))); (simp only [rel.put_lit, List.set_cons_succ, List.set_cons_zero])))
      (apply rel.walk_val; (focus (intro wq hq hf; go_wp2; refine ⟨hq, Below.refl _ _, ?_, rfl⟩; (show rel.slot _ _ = _; simp only [rel.slot_lit, List.getD_cons_succ, List.getD_cons_zero]; (first | done | exact rfl)))); (simp only [rel.put_lit, List.set_cons_succ, List.set_cons_zero]))
      (apply rel.walk_val; (focus (intro wq hq hf; go_wp2; refine ⟨hq, Below.refl _ _, ?_, rfl⟩; (show rel.slot _ _ = _; simp only [rel.slot_lit, List.getD_cons_succ, List.getD_cons_zero]; (first | done | exact rfl)))); (simp only [rel.put_lit, List.set_cons_succ, List.set_cons_zero]))
      (apply rel.walk_val; (focus (intro wq hq hf; go_wp2; refine ⟨hq, Below.refl _ _, ?_, rfl⟩; (show rel.slot _ _ = _; simp only [rel.slot_lit, List.getD_cons_succ, List.getD_cons_zero]; (first | done | exact rfl)))); (simp only [rel.put_lit, List.set_cons_succ, List.set_cons_zero]))
      (apply rel.walk_val; (focus (intro wq hq hf; go_wp2; refine ⟨hq, Below.refl _ _, ?_, rfl⟩; (show rel.slot _ _ = _; simp only [rel.slot_lit, List.getD_cons_succ, List.getD_cons_zero]; (first | done | exact rfl)))); (simp only [rel.put_lit, List.set_cons_succ, List.set_cons_zero]))
      ((apply rel.walk_val; (focus (intro wq hq hf; (have d0 := (hq.cell (p := ⟨g, 2, none⟩) hg2).trans f2); go_wp2; refine ⟨hq, Below.refl _ _, ?_, rfl⟩; (show rel.slot _ _ = _; simp only [rel.slot_lit, List.getD_cons_succ, List.getD_cons_zero]; (first | done | exact rfl)))); (simp only [rel.put_lit, List.set_cons_succ, List.set_cons_zero])))
      (apply rel.walk_val; (focus (intro wq hq hf; go_wp2; refine ⟨hq, Below.refl _ _, ?_, rfl⟩; (show rel.slot _ _ = _; simp only [rel.slot_lit, List.getD_cons_succ, List.getD_cons_zero]; (first | done | exact rfl)))); (simp only [rel.put_lit, List.set_cons_succ, List.set_cons_zero]))
      (apply rel.walk_val; (focus (intro wq hq hf; go_wp2; refine ⟨hq, Below.refl _ _, ?_, rfl⟩; (show rel.slot _ _ = _; simp only [rel.slot_lit, List.getD_cons_succ, List.getD_cons_zero]; (first | done | exact rfl)))); (simp only [rel.put_lit, List.set_cons_succ, List.set_cons_zero]))
      (apply rel.walk_rel (fun u w' => red.IsTB w' u (t2) (b2)) ⟨_, rfl⟩ (fun u w1 w2 h1 h2 => h2.on h1); (focus (intro wq hq hf; go_wp2_with (go_at_call 74; with_reducible refine (hbl _ _ (K.trans (hq.mono K.size)) (hq1.on hq)).mono ?_; rintro e w'' ⟨⟨u, rfl, hu⟩, hb⟩); refine ⟨hq.trans (hb.mono hq.size), hb, ?_, rfl⟩; (show red.IsTB _ (rel.slot _ _) _ _; simp only [rel.slot_lit, List.getD_cons_succ, List.getD_cons_zero]; exact hu))); (intro u wu _ hu; obtain ⟨pz, rfl, -⟩ := hu; (simp only [rel.put_lit, List.set_cons_succ, List.set_cons_zero])))
      (apply rel.walk_rel (fun u w' => sch.IsT w' u (t2)) ⟨_, rfl⟩ (fun u w1 w2 h1 h2 => h2.on h1); (focus (intro wq hq hf; (obtain ⟨q', he, h0⟩ := hf.get 0 rfl rfl); cases he; go_wp2; refine ⟨hq, Below.refl _ _, ?_, rfl⟩; (show sch.IsT _ (rel.slot _ _) _; simp only [rel.slot_lit, List.getD_cons_succ, List.getD_cons_zero]; exact h0))); (intro u wu _ hu; obtain ⟨pe, rfl, -⟩ := hu; (simp only [rel.put_lit, List.set_cons_succ, List.set_cons_zero])))
      (apply rel.walk_val; (focus (intro wq hq hf; go_wp2; refine ⟨hq, Below.refl _ _, ?_, rfl⟩; (show rel.slot _ _ = _; simp only [rel.slot_lit, List.getD_cons_succ, List.getD_cons_zero]; (first | done | exact rfl)))); (simp only [rel.put_lit, List.set_cons_succ, List.set_cons_zero]))
      (apply rel.walk_rel (fun u w' => sch.IsT w' u (t2)) ⟨_, rfl⟩ (fun u w1 w2 h1 h2 => h2.on h1); (focus (intro wq hq hf; have h0 := hf.get 0 rfl rfl; go_wp2; refine ⟨hq, Below.refl _ _, ?_, rfl⟩; (show sch.IsT _ (rel.slot _ _) _; simp only [rel.slot_lit, List.getD_cons_succ, List.getD_cons_zero]; exact h0))); (intro u wu _ hu; obtain ⟨pf, rfl, -⟩ := hu; (simp only [rel.put_lit, List.set_cons_succ, List.set_cons_zero])))
      refine rel.walk_nil ?_
      intro w9 K9 hF
      have hu9 : IsT w9 (.pointer pf) t2 := hF _ (List.mem_cons_self ..)
      clear hF
      simp only [List.drop_succ_cons, List.drop_zero]
      go_wp2
      refine bodyPost_ret (v := .tuple #[.pointer pf, .bool b2]) (by simp [results, Try.results55, go_sem]) rfl ⟨⟨_, rfl, _, rfl, hu9⟩, K.trans (K9.mono K.size)⟩
    obtain rfl : r = .nil := Classical.not_not.1 er
    obtain rfl : d = none := hr
    by_cases hm : m = 1
    · subst hm
      rw [show red.drop (.node x 1 l .nil) x = (.nil, false) by rw [red.drop, if_neg (by omega), if_neg (by omega)]; rfl]
      clear ihl ihr hv hl kl kr ha hx hal har hcol hm01 er
      go_enter Try.func55, Try.ntmps55
      go_wp2_with fail
      refine bodyPost_ret (v := .tuple #[.pointer none, .bool false]) (by simp [results, Try.results55, go_sem]) rfl ⟨⟨_, rfl, _, rfl, ⟨_, rfl, rfl⟩⟩, Below.refl _ _⟩
    · have hcl := lengthened_any (w := w) (t := l) (p := c) ⟨_, rfl, hl⟩
      rw [show red.drop (.node x m l .nil) x = red.len l by rw [red.drop, if_neg (by omega), if_neg (by omega), if_neg (by simp [keys]), if_neg hm]]
      generalize red.len l = zz at *
      obtain ⟨t2, b2⟩ := zz
      simp only at hcl ⊢
      clear ihl ihr hv hl kl kr ha hx hal har hcol hm01 er
      go_enter Try.func55, Try.ntmps55
      go_wp2_with (go_at_call 75; (with_reducible refine hcl.mono ?_); clear hcl; rintro e w1 ⟨⟨q1, rfl, hu⟩, hb1⟩)
      refine bodyPost_ret (v := .tuple #[.pointer q1, .bool b2]) (by simp [results, Try.results55, go_sem]) rfl ⟨⟨_, rfl, _, rfl, hu⟩, hb1⟩
end Go.Proofs.Ytlaflhnnddfkkaa.red
