/- Package avl: balanced, put, drop. -/
import Derived.Test.YtlaflhnnddfkkaaAvl
import Derived.Test.YtlaflhnnddfkkaaSchLeast
namespace Go.Proofs.Ytlaflhnnddfkkaa.avl
open Go Go.RowKit
open Go.Proofs.Ytlaflhnnddfkkaa.sch

abbrev fbal : Value := .func (.func 54) #[] #[]
abbrev fover : Value := .func (.func 72) #[] #[]

theorem balanced_any {x : Int} {a b : Tr} {p q : Option Addr} {w : World} (ha : IsT w (.pointer p) a) (hb : IsT w (.pointer q) b) (ia : Avl a) (ib : Avl b) (h1 : hgt a ≤ hgt b + 2) (h2 : hgt b ≤ hgt a + 2) (hs : hgt a + hgt b < 4611686018427387900) :
    Calls Try.prog 54 #[.int .i64 x, .pointer p, .pointer q] w fun e w' => (∃ u, e = .returned u ∧ IsG w' u (Bal x a b)) ∧ Below w.heap.size w w' := by
  by_cases e1 : hgt a = hgt b + 2
  · rcases a with _ | ⟨y, my, c, d⟩
    · simp [hgt] at e1
    · by_cases e : hgt d ≤ hgt c
      · exact balanced_one ha hb ia ib e1 e hs
      · rcases d with _ | ⟨z, mz, r, s⟩
        · simp [hgt] at e
        · exact balanced_two ha hb ia ib e1 (by omega) hs
  · by_cases e2 : hgt b = hgt a + 2
    · rcases b with _ | ⟨y, my, c, d⟩
      · simp [hgt] at e2
      · by_cases e : hgt c ≤ hgt d
        · exact balanced_three ha hb ia ib e2 e hs
        · rcases c with _ | ⟨z, mz, r, s⟩
          · simp [hgt] at e
          · exact balanced_four ha hb ia ib e2 (by omega) hs
    · exact balanced_same ha hb ia ib (by omega) (by omega) hs

/-- a tree of these numbers, this high -/
def Good (K : List Int) (lo hi : Nat) (t : Tr) : Prop := Avl t ∧ keys t = K ∧ lo ≤ hgt t ∧ hgt t ≤ hi

/-- balanced, of a tree that has changed -/
theorem bal_left {G T : Tr → Prop} {x : Int} {r : Tr} {u d : Option Addr} {w : World} (hu : IsG w (.pointer u) G) (hr : Nod w.heap.size w r d) (ir : Avl r) (hG : ∀ t, G t → Avl t ∧ hgt t ≤ hgt r + 2 ∧ hgt r ≤ hgt t + 2 ∧ hgt t + hgt r < 4611686018427387900) (hT : ∀ t t', G t → Bal x t r t' → T t') :
    Calls Try.prog 54 #[.int .i64 x, .pointer u, .pointer d] w fun e w' => (∃ u, e = .returned u ∧ IsG w' u T) ∧ Below w.heap.size w w' := by
  obtain ⟨_, t, he, hn, hg⟩ := hu
  cases he
  obtain ⟨it, h1, h2, h3⟩ := hG t hg
  exact (balanced_any hn.t hr.t it ir h1 h2 h3).mono fun e w' ⟨⟨u, he, h⟩, hb⟩ => ⟨⟨u, he, h.imp fun t' ht => hT t t' hg ht⟩, hb⟩
theorem bal_right {G T : Tr → Prop} {x : Int} {l : Tr} {u c : Option Addr} {w : World} (hl : Nod w.heap.size w l c) (hu : IsG w (.pointer u) G) (il : Avl l) (hG : ∀ t, G t → Avl t ∧ hgt t ≤ hgt l + 2 ∧ hgt l ≤ hgt t + 2 ∧ hgt t + hgt l < 4611686018427387900) (hT : ∀ t t', G t → Bal x l t t' → T t') :
    Calls Try.prog 54 #[.int .i64 x, .pointer c, .pointer u] w fun e w' => (∃ u, e = .returned u ∧ IsG w' u T) ∧ Below w.heap.size w w' := by
  obtain ⟨_, t, he, hn, hg⟩ := hu
  cases he
  obtain ⟨it, h1, h2, h3⟩ := hG t hg
  exact (balanced_any hl.t hn.t il it (by omega) (by omega) (by omega)).mono fun e w' ⟨⟨u, he, h⟩, hb⟩ => ⟨⟨u, he, h.imp fun t' ht => hT t t' hg ht⟩, hb⟩

theorem leaf_good (x : Int) : Good [x] 1 1 (mkn x .nil .nil) := ⟨mkn_avl trivial trivial (by simp [hgt]) (by simp [hgt]), rfl, by simp [hgt_mkn, hgt], by simp [hgt_mkn, hgt]⟩

set_option maxHeartbeats 8000000 in
theorem put_any {x : Int} : ∀ (t : Tr) (p : Option Addr) (w : World), Nod w.heap.size w t p → Avl t → Asc (keys t) → x ∉ keys t → (keys t).length < 1152921504606846976 →
    Calls Try.prog 59 #[.pointer p, .int .i64 x, fbal] w fun e w' => (∃ u, e = .returned u ∧ IsG w' u (Good (ins x (keys t)) (hgt t) (hgt t + 1))) ∧ Below w.heap.size w w' := by
  intro t
  induction t with
  | nil =>
    rintro p w hn - - - -
    obtain rfl : p = none := hn
    have hov : Calls Try.prog 54 #[.int .i64 x, .pointer none, .pointer none] w fun e w' => (∃ u, e = .returned u ∧ IsG w' u (Good (ins x (keys .nil)) (hgt .nil) (hgt .nil + 1))) ∧ Below w.heap.size w w' :=
      (balanced_any (x := x) (a := .nil) (b := .nil) (w := w) ⟨none, rfl, rfl⟩ ⟨none, rfl, rfl⟩ trivial trivial (by simp [hgt]) (by simp [hgt]) (by simp [hgt])).mono fun e w' ⟨⟨u, he, h⟩, hb⟩ => ⟨⟨u, he, h.imp fun t ⟨b1, b2, b3, b4, _⟩ => ⟨b1, by rw [b2]; rfl, by simp [hgt], by simpa [hgt] using b4⟩⟩, hb⟩
    generalize Good (ins x (keys .nil)) (hgt .nil) (hgt .nil + 1) = GT at *
    go_enter Try.func59, Try.ntmps59
    go_wp2_with (go_at_call 54; (with_reducible refine hov.mono ?_); clear hov; rintro e w1 ⟨⟨u, rfl, hu⟩, hb1⟩)
    go_ret
    exact ⟨⟨_, rfl, hu⟩, hb1⟩
  | node y m l r ihl ihr =>
    rintro p w ⟨g, c, d, rfl, hg, hv, hl, hr⟩ ⟨-, k1, k2, il, ir⟩ ha hx hs
    have g0 := hv.cell 0
    have g2 := hv.cell 2
    have g3 := hv.cell 3
    simp only [List.getElem?_cons_zero, List.getElem?_cons_succ] at g0 g2 g3
    simp only [keys] at ha hx hs ⊢
    rw [List.length_append, List.length_cons] at hs
    have q1 := hgt_le l
    have q2 := hgt_le r
    obtain ⟨hal, har, -, -⟩ := asc_node.1 ha
    have hxl : x ∉ keys l := fun h => hx (by simp [h])
    have hxr : x ∉ keys r := fun h => hx (by simp [h])
    have hxy : y ≠ x := fun h => hx (by simp [h])
    have K := Below.refl w.heap.size w
    by_cases hlt : x < y
    · have hcl := fun W (hW : Below w.heap.size w W) => ihl c W (hl.grow hW hW.size) il hal hxl (by omega)
      have hbl := fun W u (hW : Below w.heap.size w W) (hu : IsG W (.pointer u) (Good (ins x (keys l)) (hgt l) (hgt l + 1))) => bal_left (x := y) (T := Good (ins x (keys l ++ y :: keys r)) (hgt (.node y m l r)) (hgt (.node y m l r) + 1)) hu (hr.grow hW hW.size) ir
        (by rintro t ⟨h1, h2, h3, h4⟩; exact ⟨h1, by omega, by omega, by omega⟩)
        (by rintro t t' ⟨h1, h2, h3, h4⟩ ⟨b1, b2, b3, b4, b5⟩; exact ⟨b1, by rw [b2, h2, ins_left ha hlt], by simp only [hgt]; omega, by simp only [hgt]; omega⟩)
      generalize Good (ins x (keys l)) (hgt l) (hgt l + 1) = GL at *
      generalize Good (ins x (keys l ++ y :: keys r)) (hgt (.node y m l r)) (hgt (.node y m l r) + 1) = GT at *
      clear ihl ihr hv hl hr k1 k2 il ir ha hx hs q1 q2 hal har hxl hxr hxy
      go_enter Try.func59, Try.ntmps59
      go_wp2_with fail
      apply rel.region_tail (C := fun w' => Below w.heap.size w w') (X := fun w w' => Below w.heap.size w w') 17 (by kernel_rfl) (by kernel_rfl) (by kernel_rfl) (by kernel_rfl) (K.drew)
      (apply rel.walk_val; (focus (intro wq hq hf; go_wp2; refine ⟨hq, Below.refl _ _, ?_, rfl⟩; (show rel.slot _ _ = _; simp only [rel.slot_lit, List.getD_cons_succ, List.getD_cons_zero]; (first | done | exact rfl)))); (simp only [rel.put_lit, List.set_cons_succ, List.set_cons_zero]))
      (apply rel.walk_val; (focus (intro wq hq hf; go_wp2; refine ⟨hq, Below.refl _ _, ?_, rfl⟩; (show rel.slot _ _ = _; simp only [rel.slot_lit, List.getD_cons_succ, List.getD_cons_zero]; (first | done | exact rfl)))); (simp only [rel.put_lit, List.set_cons_succ, List.set_cons_zero]))
      (apply rel.walk_val; (focus (intro wq hq hf; go_wp2; refine ⟨hq, Below.refl _ _, ?_, rfl⟩; (show rel.slot _ _ = _; simp only [rel.slot_lit, List.getD_cons_succ, List.getD_cons_zero]; (first | done | exact rfl)))); (simp only [rel.put_lit, List.set_cons_succ, List.set_cons_zero]))
      (apply rel.walk_val; (focus (intro wq hq hf; go_wp2; refine ⟨hq, Below.refl _ _, ?_, rfl⟩; (show rel.slot _ _ = _; simp only [rel.slot_lit, List.getD_cons_succ, List.getD_cons_zero]; (first | done | exact rfl)))); (simp only [rel.put_lit, List.set_cons_succ, List.set_cons_zero]))
      ((apply rel.walk_val; (focus (intro wq hq hf; (have d0 := (hq.cell (p := ⟨g, 0, none⟩) hg).trans g0); go_wp2; refine ⟨hq, Below.refl _ _, ?_, rfl⟩; (show rel.slot _ _ = _; simp only [rel.slot_lit, List.getD_cons_succ, List.getD_cons_zero]; (first | done | exact rfl)))); (simp only [rel.put_lit, List.set_cons_succ, List.set_cons_zero])))
      (apply rel.walk_val; (focus (intro wq hq hf; go_wp2; refine ⟨hq, Below.refl _ _, ?_, rfl⟩; (show rel.slot _ _ = _; simp only [rel.slot_lit, List.getD_cons_succ, List.getD_cons_zero]; (first | done | exact rfl)))); (simp only [rel.put_lit, List.set_cons_succ, List.set_cons_zero]))
      (apply rel.walk_val; (focus (intro wq hq hf; go_wp2; refine ⟨hq, Below.refl _ _, ?_, rfl⟩; (show rel.slot _ _ = _; simp only [rel.slot_lit, List.getD_cons_succ, List.getD_cons_zero]; (first | done | exact rfl)))); (simp only [rel.put_lit, List.set_cons_succ, List.set_cons_zero]))
      (apply rel.walk_val; (focus (intro wq hq hf; go_wp2; refine ⟨hq, Below.refl _ _, ?_, rfl⟩; (show rel.slot _ _ = _; simp only [rel.slot_lit, List.getD_cons_succ, List.getD_cons_zero]; (first | done | exact rfl)))); (simp only [rel.put_lit, List.set_cons_succ, List.set_cons_zero]))
      ((apply rel.walk_val; (focus (intro wq hq hf; (have d0 := (hq.cell (p := ⟨g, 2, none⟩) hg).trans g2); go_wp2; refine ⟨hq, Below.refl _ _, ?_, rfl⟩; (show rel.slot _ _ = _; simp only [rel.slot_lit, List.getD_cons_succ, List.getD_cons_zero]; (first | done | exact rfl)))); (simp only [rel.put_lit, List.set_cons_succ, List.set_cons_zero])))
      (apply rel.walk_val; (focus (intro wq hq hf; go_wp2; refine ⟨hq, Below.refl _ _, ?_, rfl⟩; (show rel.slot _ _ = _; simp only [rel.slot_lit, List.getD_cons_succ, List.getD_cons_zero]; (first | done | exact rfl)))); (simp only [rel.put_lit, List.set_cons_succ, List.set_cons_zero]))
      (apply rel.walk_val; (focus (intro wq hq hf; go_wp2; refine ⟨hq, Below.refl _ _, ?_, rfl⟩; (show rel.slot _ _ = _; simp only [rel.slot_lit, List.getD_cons_succ, List.getD_cons_zero]; (first | done | exact rfl)))); (simp only [rel.put_lit, List.set_cons_succ, List.set_cons_zero]))
      (apply rel.walk_rel (fun u w' => sch.IsG w' u (GL)) ⟨_, rfl⟩ (fun u w1 w2 h1 h2 => h2.on h1); (focus (intro wq hq hf; go_wp2_with (go_at_call 59; with_reducible refine (hcl _ hq).mono ?_; rintro e w'' ⟨⟨u, rfl, hu⟩, hb⟩); refine ⟨hq.trans (hb.mono hq.size), hb, ?_, rfl⟩; (show sch.IsG _ (rel.slot _ _) _; simp only [rel.slot_lit, List.getD_cons_succ, List.getD_cons_zero]; exact hu))); (intro u wu _ hu; obtain ⟨pu, t_pu, rfl, -⟩ := hu; (simp only [rel.put_lit, List.set_cons_succ, List.set_cons_zero])))
      (apply rel.walk_val; (focus (intro wq hq hf; go_wp2; refine ⟨hq, Below.refl _ _, ?_, rfl⟩; (show rel.slot _ _ = _; simp only [rel.slot_lit, List.getD_cons_succ, List.getD_cons_zero]; (first | done | exact rfl)))); (simp only [rel.put_lit, List.set_cons_succ, List.set_cons_zero]))
      (apply rel.walk_val; (focus (intro wq hq hf; go_wp2; refine ⟨hq, Below.refl _ _, ?_, rfl⟩; (show rel.slot _ _ = _; simp only [rel.slot_lit, List.getD_cons_succ, List.getD_cons_zero]; (first | done | exact rfl)))); (simp only [rel.put_lit, List.set_cons_succ, List.set_cons_zero]))
      (apply rel.walk_val; (focus (intro wq hq hf; go_wp2; refine ⟨hq, Below.refl _ _, ?_, rfl⟩; (show rel.slot _ _ = _; simp only [rel.slot_lit, List.getD_cons_succ, List.getD_cons_zero]; (first | done | exact rfl)))); (simp only [rel.put_lit, List.set_cons_succ, List.set_cons_zero]))
      ((apply rel.walk_val; (focus (intro wq hq hf; (have d0 := (hq.cell (p := ⟨g, 3, none⟩) hg).trans g3); go_wp2; refine ⟨hq, Below.refl _ _, ?_, rfl⟩; (show rel.slot _ _ = _; simp only [rel.slot_lit, List.getD_cons_succ, List.getD_cons_zero]; (first | done | exact rfl)))); (simp only [rel.put_lit, List.set_cons_succ, List.set_cons_zero])))
      (apply rel.walk_rel (fun u w' => sch.IsG w' u (GT)) ⟨_, rfl⟩ (fun u w1 w2 h1 h2 => h2.on h1); (focus (intro wq hq hf; go_wp2_with (go_at_call 54; with_reducible refine (hbl _ _ hq (hf.get 0 rfl rfl)).mono ?_; rintro e w'' ⟨⟨u, rfl, hu⟩, hb⟩); refine ⟨hq.trans (hb.mono hq.size), hb, ?_, rfl⟩; (show sch.IsG _ (rel.slot _ _) _; simp only [rel.slot_lit, List.getD_cons_succ, List.getD_cons_zero]; exact hu))); (intro u wu _ hu; obtain ⟨pz, t_pz, rfl, -⟩ := hu; (simp only [rel.put_lit, List.set_cons_succ, List.set_cons_zero])))
      refine rel.walk_nil ?_
      intro w9 K9 hF
      have hu : IsG w9 (.pointer pz) _ := hF _ (List.mem_cons_self ..)
      clear hF
      simp only [List.drop_succ_cons, List.drop_zero]
      go_wp2
      go_ret
      exact ⟨⟨_, rfl, hu⟩, K9⟩
    · have hlt2 : ¬ (x < y) := hlt
      have hcl := fun W (hW : Below w.heap.size w W) => ihr d W (hr.grow hW hW.size) ir har hxr (by omega)
      have hbl := fun W u (hW : Below w.heap.size w W) (hu : IsG W (.pointer u) (Good (ins x (keys r)) (hgt r) (hgt r + 1))) => bal_right (x := y) (T := Good (ins x (keys l ++ y :: keys r)) (hgt (.node y m l r)) (hgt (.node y m l r) + 1)) (hl.grow hW hW.size) hu il
        (by rintro t ⟨h1, h2, h3, h4⟩; exact ⟨h1, by omega, by omega, by omega⟩)
        (by rintro t t' ⟨h1, h2, h3, h4⟩ ⟨b1, b2, b3, b4, b5⟩; exact ⟨b1, by rw [b2, h2, ins_right ha (by omega)], by simp only [hgt]; omega, by simp only [hgt]; omega⟩)
      generalize Good (ins x (keys r)) (hgt r) (hgt r + 1) = GL at *
      generalize Good (ins x (keys l ++ y :: keys r)) (hgt (.node y m l r)) (hgt (.node y m l r) + 1) = GT at *
      clear ihl ihr hv hl hr k1 k2 il ir ha hx hs q1 q2 hal har hxl hxr hxy hlt
      go_enter Try.func59, Try.ntmps59
      go_wp2_with fail
      apply rel.region_tail (C := fun w' => Below w.heap.size w w') (X := fun w w' => Below w.heap.size w w') 17 (by kernel_rfl) (by kernel_rfl) (by kernel_rfl) (by kernel_rfl) (K.drew)
      (apply rel.walk_val; (focus (intro wq hq hf; go_wp2; refine ⟨hq, Below.refl _ _, ?_, rfl⟩; (show rel.slot _ _ = _; simp only [rel.slot_lit, List.getD_cons_succ, List.getD_cons_zero]; (first | done | exact rfl)))); (simp only [rel.put_lit, List.set_cons_succ, List.set_cons_zero]))
      (apply rel.walk_val; (focus (intro wq hq hf; go_wp2; refine ⟨hq, Below.refl _ _, ?_, rfl⟩; (show rel.slot _ _ = _; simp only [rel.slot_lit, List.getD_cons_succ, List.getD_cons_zero]; (first | done | exact rfl)))); (simp only [rel.put_lit, List.set_cons_succ, List.set_cons_zero]))
      (apply rel.walk_val; (focus (intro wq hq hf; go_wp2; refine ⟨hq, Below.refl _ _, ?_, rfl⟩; (show rel.slot _ _ = _; simp only [rel.slot_lit, List.getD_cons_succ, List.getD_cons_zero]; (first | done | exact rfl)))); (simp only [rel.put_lit, List.set_cons_succ, List.set_cons_zero]))
      (apply rel.walk_val; (focus (intro wq hq hf; go_wp2; refine ⟨hq, Below.refl _ _, ?_, rfl⟩; (show rel.slot _ _ = _; simp only [rel.slot_lit, List.getD_cons_succ, List.getD_cons_zero]; (first | done | exact rfl)))); (simp only [rel.put_lit, List.set_cons_succ, List.set_cons_zero]))
      ((apply rel.walk_val; (focus (intro wq hq hf; (have d0 := (hq.cell (p := ⟨g, 0, none⟩) hg).trans g0); go_wp2; refine ⟨hq, Below.refl _ _, ?_, rfl⟩; (show rel.slot _ _ = _; simp only [rel.slot_lit, List.getD_cons_succ, List.getD_cons_zero]; (first | done | exact rfl)))); (simp only [rel.put_lit, List.set_cons_succ, List.set_cons_zero])))
      (apply rel.walk_val; (focus (intro wq hq hf; go_wp2; refine ⟨hq, Below.refl _ _, ?_, rfl⟩; (show rel.slot _ _ = _; simp only [rel.slot_lit, List.getD_cons_succ, List.getD_cons_zero]; (first | done | exact rfl)))); (simp only [rel.put_lit, List.set_cons_succ, List.set_cons_zero]))
      (apply rel.walk_val; (focus (intro wq hq hf; go_wp2; refine ⟨hq, Below.refl _ _, ?_, rfl⟩; (show rel.slot _ _ = _; simp only [rel.slot_lit, List.getD_cons_succ, List.getD_cons_zero]; (first | done | exact rfl)))); (simp only [rel.put_lit, List.set_cons_succ, List.set_cons_zero]))
      (apply rel.walk_val; (focus (intro wq hq hf; go_wp2; refine ⟨hq, Below.refl _ _, ?_, rfl⟩; (show rel.slot _ _ = _; simp only [rel.slot_lit, List.getD_cons_succ, List.getD_cons_zero]; (first | done | exact rfl)))); (simp only [rel.put_lit, List.set_cons_succ, List.set_cons_zero]))
      ((apply rel.walk_val; (focus (intro wq hq hf; (have d0 := (hq.cell (p := ⟨g, 2, none⟩) hg).trans g2); go_wp2; refine ⟨hq, Below.refl _ _, ?_, rfl⟩; (show rel.slot _ _ = _; simp only [rel.slot_lit, List.getD_cons_succ, List.getD_cons_zero]; (first | done | exact rfl)))); (simp only [rel.put_lit, List.set_cons_succ, List.set_cons_zero])))
      (apply rel.walk_val; (focus (intro wq hq hf; go_wp2; refine ⟨hq, Below.refl _ _, ?_, rfl⟩; (show rel.slot _ _ = _; simp only [rel.slot_lit, List.getD_cons_succ, List.getD_cons_zero]; (first | done | exact rfl)))); (simp only [rel.put_lit, List.set_cons_succ, List.set_cons_zero]))
      (apply rel.walk_val; (focus (intro wq hq hf; go_wp2; refine ⟨hq, Below.refl _ _, ?_, rfl⟩; (show rel.slot _ _ = _; simp only [rel.slot_lit, List.getD_cons_succ, List.getD_cons_zero]; (first | done | exact rfl)))); (simp only [rel.put_lit, List.set_cons_succ, List.set_cons_zero]))
      (apply rel.walk_val; (focus (intro wq hq hf; go_wp2; refine ⟨hq, Below.refl _ _, ?_, rfl⟩; (show rel.slot _ _ = _; simp only [rel.slot_lit, List.getD_cons_succ, List.getD_cons_zero]; (first | done | exact rfl)))); (simp only [rel.put_lit, List.set_cons_succ, List.set_cons_zero]))
      ((apply rel.walk_val; (focus (intro wq hq hf; (have d0 := (hq.cell (p := ⟨g, 3, none⟩) hg).trans g3); go_wp2; refine ⟨hq, Below.refl _ _, ?_, rfl⟩; (show rel.slot _ _ = _; simp only [rel.slot_lit, List.getD_cons_succ, List.getD_cons_zero]; (first | done | exact rfl)))); (simp only [rel.put_lit, List.set_cons_succ, List.set_cons_zero])))
      (apply rel.walk_val; (focus (intro wq hq hf; go_wp2; refine ⟨hq, Below.refl _ _, ?_, rfl⟩; (show rel.slot _ _ = _; simp only [rel.slot_lit, List.getD_cons_succ, List.getD_cons_zero]; (first | done | exact rfl)))); (simp only [rel.put_lit, List.set_cons_succ, List.set_cons_zero]))
      (apply rel.walk_val; (focus (intro wq hq hf; go_wp2; refine ⟨hq, Below.refl _ _, ?_, rfl⟩; (show rel.slot _ _ = _; simp only [rel.slot_lit, List.getD_cons_succ, List.getD_cons_zero]; (first | done | exact rfl)))); (simp only [rel.put_lit, List.set_cons_succ, List.set_cons_zero]))
      (apply rel.walk_rel (fun u w' => sch.IsG w' u (GL)) ⟨_, rfl⟩ (fun u w1 w2 h1 h2 => h2.on h1); (focus (intro wq hq hf; go_wp2_with (go_at_call 59; with_reducible refine (hcl _ hq).mono ?_; rintro e w'' ⟨⟨u, rfl, hu⟩, hb⟩); refine ⟨hq.trans (hb.mono hq.size), hb, ?_, rfl⟩; (show sch.IsG _ (rel.slot _ _) _; simp only [rel.slot_lit, List.getD_cons_succ, List.getD_cons_zero]; exact hu))); (intro u wu _ hu; obtain ⟨pu, t_pu, rfl, -⟩ := hu; (simp only [rel.put_lit, List.set_cons_succ, List.set_cons_zero])))
      (apply rel.walk_rel (fun u w' => sch.IsG w' u (GT)) ⟨_, rfl⟩ (fun u w1 w2 h1 h2 => h2.on h1); (focus (intro wq hq hf; go_wp2_with (go_at_call 54; with_reducible refine (hbl _ _ hq (hf.get 0 rfl rfl)).mono ?_; rintro e w'' ⟨⟨u, rfl, hu⟩, hb⟩); refine ⟨hq.trans (hb.mono hq.size), hb, ?_, rfl⟩; (show sch.IsG _ (rel.slot _ _) _; simp only [rel.slot_lit, List.getD_cons_succ, List.getD_cons_zero]; exact hu))); (intro u wu _ hu; obtain ⟨pz, t_pz, rfl, -⟩ := hu; (simp only [rel.put_lit, List.set_cons_succ, List.set_cons_zero])))
      refine rel.walk_nil ?_
      intro w9 K9 hF
      have hu : IsG w9 (.pointer pz) _ := hF _ (List.mem_cons_self ..)
      clear hF
      simp only [List.drop_succ_cons, List.drop_zero]
      go_wp2
      go_ret
      exact ⟨⟨_, rfl, hu⟩, K9⟩

set_option maxHeartbeats 8000000 in
theorem drop_any : ∀ (t : Tr) (x : Int) (p : Option Addr) (w : World), Nod w.heap.size w t p → Avl t → Asc (keys t) → x ∈ keys t → (keys t).length < 1152921504606846976 →
    Calls Try.prog 53 #[.pointer p, .int .i64 x, fbal] w fun e w' => (∃ u, e = .returned u ∧ IsG w' u (Good (del x (keys t)) (hgt t - 1) (hgt t))) ∧ Below w.heap.size w w' := by
  intro t
  induction t with
  | nil =>
    intro x p w _ _ _ hx
    simp [keys] at hx
  | node y m l r ihl ihr =>
    rintro x p w ⟨g, c, d, rfl, hg, hv, hl, hr⟩ ⟨-, k1, k2, il, ir⟩ ha hx hs
    have g0 := hv.cell 0
    have g2 := hv.cell 2
    have g3 := hv.cell 3
    simp only [List.getElem?_cons_zero, List.getElem?_cons_succ] at g0 g2 g3
    simp only [keys] at ha hx hs ⊢
    rw [List.length_append, List.length_cons] at hs
    have q1 := hgt_le l
    have q2 := hgt_le r
    obtain ⟨hal, har, -, -⟩ := asc_node.1 ha
    have K := Below.refl w.heap.size w
    by_cases hlt : x < y
    · have hcl := fun W (hW : Below w.heap.size w W) => ihl x c W (hl.grow hW hW.size) il hal ((sch.mem_left ha hlt).1 hx) (by omega)
      have hbl := fun W u (hW : Below w.heap.size w W) (hu : IsG W (.pointer u) (Good (del x (keys l)) (hgt l - 1) (hgt l))) => bal_left (x := y) (T := Good (del x (keys l ++ y :: keys r)) (hgt (.node y m l r) - 1) (hgt (.node y m l r))) hu (hr.grow hW hW.size) ir
        (by rintro t ⟨h1, h2, h3, h4⟩; exact ⟨h1, by omega, by omega, by omega⟩)
        (by rintro t t' ⟨h1, h2, h3, h4⟩ ⟨b1, b2, b3, b4, b5⟩; exact ⟨b1, by rw [b2, h2, del_left ha hlt], by simp only [hgt]; omega, by simp only [hgt]; omega⟩)
      generalize Good (del x (keys l)) (hgt l - 1) (hgt l) = GL at *
      generalize Good (del x (keys l ++ y :: keys r)) (hgt (.node y m l r) - 1) (hgt (.node y m l r)) = GT at *
      clear ihl ihr hv hl hr k1 k2 il ir ha hx hs q1 q2 hal har
      go_enter Try.func53, Try.ntmps53
      go_wp2_with fail
      apply rel.region_tail (C := fun w' => Below w.heap.size w w') (X := fun w w' => Below w.heap.size w w') 17 (by kernel_rfl) (by kernel_rfl) (by kernel_rfl) (by kernel_rfl) (K.drew)
      (apply rel.walk_val; (focus (intro wq hq hf; go_wp2; refine ⟨hq, Below.refl _ _, ?_, rfl⟩; (show rel.slot _ _ = _; simp only [rel.slot_lit, List.getD_cons_succ, List.getD_cons_zero]; (first | done | exact rfl)))); (simp only [rel.put_lit, List.set_cons_succ, List.set_cons_zero]))
      (apply rel.walk_val; (focus (intro wq hq hf; go_wp2; refine ⟨hq, Below.refl _ _, ?_, rfl⟩; (show rel.slot _ _ = _; simp only [rel.slot_lit, List.getD_cons_succ, List.getD_cons_zero]; (first | done | exact rfl)))); (simp only [rel.put_lit, List.set_cons_succ, List.set_cons_zero]))
      (apply rel.walk_val; (focus (intro wq hq hf; go_wp2; refine ⟨hq, Below.refl _ _, ?_, rfl⟩; (show rel.slot _ _ = _; simp only [rel.slot_lit, List.getD_cons_succ, List.getD_cons_zero]; (first | done | exact rfl)))); (simp only [rel.put_lit, List.set_cons_succ, List.set_cons_zero]))
      (apply rel.walk_val; (focus (intro wq hq hf; go_wp2; refine ⟨hq, Below.refl _ _, ?_, rfl⟩; (show rel.slot _ _ = _; simp only [rel.slot_lit, List.getD_cons_succ, List.getD_cons_zero]; (first | done | exact rfl)))); (simp only [rel.put_lit, List.set_cons_succ, List.set_cons_zero]))
      ((apply rel.walk_val; (focus (intro wq hq hf; (have d0 := (hq.cell (p := ⟨g, 0, none⟩) hg).trans g0); go_wp2; refine ⟨hq, Below.refl _ _, ?_, rfl⟩; (show rel.slot _ _ = _; simp only [rel.slot_lit, List.getD_cons_succ, List.getD_cons_zero]; (first | done | exact rfl)))); (simp only [rel.put_lit, List.set_cons_succ, List.set_cons_zero])))
      (apply rel.walk_val; (focus (intro wq hq hf; go_wp2; refine ⟨hq, Below.refl _ _, ?_, rfl⟩; (show rel.slot _ _ = _; simp only [rel.slot_lit, List.getD_cons_succ, List.getD_cons_zero]; (first | done | exact rfl)))); (simp only [rel.put_lit, List.set_cons_succ, List.set_cons_zero]))
      (apply rel.walk_val; (focus (intro wq hq hf; go_wp2; refine ⟨hq, Below.refl _ _, ?_, rfl⟩; (show rel.slot _ _ = _; simp only [rel.slot_lit, List.getD_cons_succ, List.getD_cons_zero]; (first | done | exact rfl)))); (simp only [rel.put_lit, List.set_cons_succ, List.set_cons_zero]))
      (apply rel.walk_val; (focus (intro wq hq hf; go_wp2; refine ⟨hq, Below.refl _ _, ?_, rfl⟩; (show rel.slot _ _ = _; simp only [rel.slot_lit, List.getD_cons_succ, List.getD_cons_zero]; (first | done | exact rfl)))); (simp only [rel.put_lit, List.set_cons_succ, List.set_cons_zero]))
      ((apply rel.walk_val; (focus (intro wq hq hf; (have d0 := (hq.cell (p := ⟨g, 2, none⟩) hg).trans g2); go_wp2; refine ⟨hq, Below.refl _ _, ?_, rfl⟩; (show rel.slot _ _ = _; simp only [rel.slot_lit, List.getD_cons_succ, List.getD_cons_zero]; (first | done | exact rfl)))); (simp only [rel.put_lit, List.set_cons_succ, List.set_cons_zero])))
      (apply rel.walk_val; (focus (intro wq hq hf; go_wp2; refine ⟨hq, Below.refl _ _, ?_, rfl⟩; (show rel.slot _ _ = _; simp only [rel.slot_lit, List.getD_cons_succ, List.getD_cons_zero]; (first | done | exact rfl)))); (simp only [rel.put_lit, List.set_cons_succ, List.set_cons_zero]))
      (apply rel.walk_val; (focus (intro wq hq hf; go_wp2; refine ⟨hq, Below.refl _ _, ?_, rfl⟩; (show rel.slot _ _ = _; simp only [rel.slot_lit, List.getD_cons_succ, List.getD_cons_zero]; (first | done | exact rfl)))); (simp only [rel.put_lit, List.set_cons_succ, List.set_cons_zero]))
      (apply rel.walk_rel (fun u w' => sch.IsG w' u (GL)) ⟨_, rfl⟩ (fun u w1 w2 h1 h2 => h2.on h1); (focus (intro wq hq hf; go_wp2_with (go_at_call 53; with_reducible refine (hcl _ hq).mono ?_; rintro e w'' ⟨⟨u, rfl, hu⟩, hb⟩); refine ⟨hq.trans (hb.mono hq.size), hb, ?_, rfl⟩; (show sch.IsG _ (rel.slot _ _) _; simp only [rel.slot_lit, List.getD_cons_succ, List.getD_cons_zero]; exact hu))); (intro u wu _ hu; obtain ⟨pu, t_pu, rfl, -⟩ := hu; (simp only [rel.put_lit, List.set_cons_succ, List.set_cons_zero])))
      (apply rel.walk_val; (focus (intro wq hq hf; go_wp2; refine ⟨hq, Below.refl _ _, ?_, rfl⟩; (show rel.slot _ _ = _; simp only [rel.slot_lit, List.getD_cons_succ, List.getD_cons_zero]; (first | done | exact rfl)))); (simp only [rel.put_lit, List.set_cons_succ, List.set_cons_zero]))
      (apply rel.walk_val; (focus (intro wq hq hf; go_wp2; refine ⟨hq, Below.refl _ _, ?_, rfl⟩; (show rel.slot _ _ = _; simp only [rel.slot_lit, List.getD_cons_succ, List.getD_cons_zero]; (first | done | exact rfl)))); (simp only [rel.put_lit, List.set_cons_succ, List.set_cons_zero]))
      (apply rel.walk_val; (focus (intro wq hq hf; go_wp2; refine ⟨hq, Below.refl _ _, ?_, rfl⟩; (show rel.slot _ _ = _; simp only [rel.slot_lit, List.getD_cons_succ, List.getD_cons_zero]; (first | done | exact rfl)))); (simp only [rel.put_lit, List.set_cons_succ, List.set_cons_zero]))
      ((apply rel.walk_val; (focus (intro wq hq hf; (have d0 := (hq.cell (p := ⟨g, 3, none⟩) hg).trans g3); go_wp2; refine ⟨hq, Below.refl _ _, ?_, rfl⟩; (show rel.slot _ _ = _; simp only [rel.slot_lit, List.getD_cons_succ, List.getD_cons_zero]; (first | done | exact rfl)))); (simp only [rel.put_lit, List.set_cons_succ, List.set_cons_zero])))
      (apply rel.walk_rel (fun u w' => sch.IsG w' u (GT)) ⟨_, rfl⟩ (fun u w1 w2 h1 h2 => h2.on h1); (focus (intro wq hq hf; go_wp2_with (go_at_call 54; with_reducible refine (hbl _ _ hq (hf.get 0 rfl rfl)).mono ?_; rintro e w'' ⟨⟨u, rfl, hu⟩, hb⟩); refine ⟨hq.trans (hb.mono hq.size), hb, ?_, rfl⟩; (show sch.IsG _ (rel.slot _ _) _; simp only [rel.slot_lit, List.getD_cons_succ, List.getD_cons_zero]; exact hu))); (intro u wu _ hu; obtain ⟨pz, t_pz, rfl, -⟩ := hu; (simp only [rel.put_lit, List.set_cons_succ, List.set_cons_zero])))
      refine rel.walk_nil ?_
      intro w9 K9 hF
      have hu : IsG w9 (.pointer pz) _ := hF _ (List.mem_cons_self ..)
      clear hF
      simp only [List.drop_succ_cons, List.drop_zero]
      go_wp2
      go_ret
      exact ⟨⟨_, rfl, hu⟩, K9⟩
    by_cases hgt' : y < x
    · have hcl := fun W (hW : Below w.heap.size w W) => ihr x d W (hr.grow hW hW.size) ir har ((sch.mem_right ha hgt').1 hx) (by omega)
      have hbl := fun W u (hW : Below w.heap.size w W) (hu : IsG W (.pointer u) (Good (del x (keys r)) (hgt r - 1) (hgt r))) => bal_right (x := y) (T := Good (del x (keys l ++ y :: keys r)) (hgt (.node y m l r) - 1) (hgt (.node y m l r))) (hl.grow hW hW.size) hu il
        (by rintro t ⟨h1, h2, h3, h4⟩; exact ⟨h1, by omega, by omega, by omega⟩)
        (by rintro t t' ⟨h1, h2, h3, h4⟩ ⟨b1, b2, b3, b4, b5⟩; exact ⟨b1, by rw [b2, h2, del_right ha hgt'], by simp only [hgt]; omega, by simp only [hgt]; omega⟩)
      generalize Good (del x (keys r)) (hgt r - 1) (hgt r) = GL at *
      generalize Good (del x (keys l ++ y :: keys r)) (hgt (.node y m l r) - 1) (hgt (.node y m l r)) = GT at *
      clear ihl ihr hv hl hr k1 k2 il ir ha hx hs q1 q2 hal har
      go_enter Try.func53, Try.ntmps53
      go_wp2_with fail
      apply rel.region_tail (C := fun w' => Below w.heap.size w w') (X := fun w w' => Below w.heap.size w w') 17 (by kernel_rfl) (by kernel_rfl) (by kernel_rfl) (by kernel_rfl) (K.drew)
      (apply rel.walk_val; (focus (intro wq hq hf; go_wp2; refine ⟨hq, Below.refl _ _, ?_, rfl⟩; (show rel.slot _ _ = _; simp only [rel.slot_lit, List.getD_cons_succ, List.getD_cons_zero]; (first | done | exact rfl)))); (simp only [rel.put_lit, List.set_cons_succ, List.set_cons_zero]))
      (apply rel.walk_val; (focus (intro wq hq hf; go_wp2; refine ⟨hq, Below.refl _ _, ?_, rfl⟩; (show rel.slot _ _ = _; simp only [rel.slot_lit, List.getD_cons_succ, List.getD_cons_zero]; (first | done | exact rfl)))); (simp only [rel.put_lit, List.set_cons_succ, List.set_cons_zero]))
      (apply rel.walk_val; (focus (intro wq hq hf; go_wp2; refine ⟨hq, Below.refl _ _, ?_, rfl⟩; (show rel.slot _ _ = _; simp only [rel.slot_lit, List.getD_cons_succ, List.getD_cons_zero]; (first | done | exact rfl)))); (simp only [rel.put_lit, List.set_cons_succ, List.set_cons_zero]))
      (apply rel.walk_val; (focus (intro wq hq hf; go_wp2; refine ⟨hq, Below.refl _ _, ?_, rfl⟩; (show rel.slot _ _ = _; simp only [rel.slot_lit, List.getD_cons_succ, List.getD_cons_zero]; (first | done | exact rfl)))); (simp only [rel.put_lit, List.set_cons_succ, List.set_cons_zero]))
      ((apply rel.walk_val; (focus (intro wq hq hf; (have d0 := (hq.cell (p := ⟨g, 0, none⟩) hg).trans g0); go_wp2; refine ⟨hq, Below.refl _ _, ?_, rfl⟩; (show rel.slot _ _ = _; simp only [rel.slot_lit, List.getD_cons_succ, List.getD_cons_zero]; (first | done | exact rfl)))); (simp only [rel.put_lit, List.set_cons_succ, List.set_cons_zero])))
      (apply rel.walk_val; (focus (intro wq hq hf; go_wp2; refine ⟨hq, Below.refl _ _, ?_, rfl⟩; (show rel.slot _ _ = _; simp only [rel.slot_lit, List.getD_cons_succ, List.getD_cons_zero]; (first | done | exact rfl)))); (simp only [rel.put_lit, List.set_cons_succ, List.set_cons_zero]))
      (apply rel.walk_val; (focus (intro wq hq hf; go_wp2; refine ⟨hq, Below.refl _ _, ?_, rfl⟩; (show rel.slot _ _ = _; simp only [rel.slot_lit, List.getD_cons_succ, List.getD_cons_zero]; (first | done | exact rfl)))); (simp only [rel.put_lit, List.set_cons_succ, List.set_cons_zero]))
      (apply rel.walk_val; (focus (intro wq hq hf; go_wp2; refine ⟨hq, Below.refl _ _, ?_, rfl⟩; (show rel.slot _ _ = _; simp only [rel.slot_lit, List.getD_cons_succ, List.getD_cons_zero]; (first | done | exact rfl)))); (simp only [rel.put_lit, List.set_cons_succ, List.set_cons_zero]))
      ((apply rel.walk_val; (focus (intro wq hq hf; (have d0 := (hq.cell (p := ⟨g, 2, none⟩) hg).trans g2); go_wp2; refine ⟨hq, Below.refl _ _, ?_, rfl⟩; (show rel.slot _ _ = _; simp only [rel.slot_lit, List.getD_cons_succ, List.getD_cons_zero]; (first | done | exact rfl)))); (simp only [rel.put_lit, List.set_cons_succ, List.set_cons_zero])))
      (apply rel.walk_val; (focus (intro wq hq hf; go_wp2; refine ⟨hq, Below.refl _ _, ?_, rfl⟩; (show rel.slot _ _ = _; simp only [rel.slot_lit, List.getD_cons_succ, List.getD_cons_zero]; (first | done | exact rfl)))); (simp only [rel.put_lit, List.set_cons_succ, List.set_cons_zero]))
      (apply rel.walk_val; (focus (intro wq hq hf; go_wp2; refine ⟨hq, Below.refl _ _, ?_, rfl⟩; (show rel.slot _ _ = _; simp only [rel.slot_lit, List.getD_cons_succ, List.getD_cons_zero]; (first | done | exact rfl)))); (simp only [rel.put_lit, List.set_cons_succ, List.set_cons_zero]))
      (apply rel.walk_val; (focus (intro wq hq hf; go_wp2; refine ⟨hq, Below.refl _ _, ?_, rfl⟩; (show rel.slot _ _ = _; simp only [rel.slot_lit, List.getD_cons_succ, List.getD_cons_zero]; (first | done | exact rfl)))); (simp only [rel.put_lit, List.set_cons_succ, List.set_cons_zero]))
      ((apply rel.walk_val; (focus (intro wq hq hf; (have d0 := (hq.cell (p := ⟨g, 3, none⟩) hg).trans g3); go_wp2; refine ⟨hq, Below.refl _ _, ?_, rfl⟩; (show rel.slot _ _ = _; simp only [rel.slot_lit, List.getD_cons_succ, List.getD_cons_zero]; (first | done | exact rfl)))); (simp only [rel.put_lit, List.set_cons_succ, List.set_cons_zero])))
      (apply rel.walk_val; (focus (intro wq hq hf; go_wp2; refine ⟨hq, Below.refl _ _, ?_, rfl⟩; (show rel.slot _ _ = _; simp only [rel.slot_lit, List.getD_cons_succ, List.getD_cons_zero]; (first | done | exact rfl)))); (simp only [rel.put_lit, List.set_cons_succ, List.set_cons_zero]))
      (apply rel.walk_val; (focus (intro wq hq hf; go_wp2; refine ⟨hq, Below.refl _ _, ?_, rfl⟩; (show rel.slot _ _ = _; simp only [rel.slot_lit, List.getD_cons_succ, List.getD_cons_zero]; (first | done | exact rfl)))); (simp only [rel.put_lit, List.set_cons_succ, List.set_cons_zero]))
      (apply rel.walk_rel (fun u w' => sch.IsG w' u (GL)) ⟨_, rfl⟩ (fun u w1 w2 h1 h2 => h2.on h1); (focus (intro wq hq hf; go_wp2_with (go_at_call 53; with_reducible refine (hcl _ hq).mono ?_; rintro e w'' ⟨⟨u, rfl, hu⟩, hb⟩); refine ⟨hq.trans (hb.mono hq.size), hb, ?_, rfl⟩; (show sch.IsG _ (rel.slot _ _) _; simp only [rel.slot_lit, List.getD_cons_succ, List.getD_cons_zero]; exact hu))); (intro u wu _ hu; obtain ⟨pu, t_pu, rfl, -⟩ := hu; (simp only [rel.put_lit, List.set_cons_succ, List.set_cons_zero])))
      (apply rel.walk_rel (fun u w' => sch.IsG w' u (GT)) ⟨_, rfl⟩ (fun u w1 w2 h1 h2 => h2.on h1); (focus (intro wq hq hf; go_wp2_with (go_at_call 54; with_reducible refine (hbl _ _ hq (hf.get 0 rfl rfl)).mono ?_; rintro e w'' ⟨⟨u, rfl, hu⟩, hb⟩); refine ⟨hq.trans (hb.mono hq.size), hb, ?_, rfl⟩; (show sch.IsG _ (rel.slot _ _) _; simp only [rel.slot_lit, List.getD_cons_succ, List.getD_cons_zero]; exact hu))); (intro u wu _ hu; obtain ⟨pz, t_pz, rfl, -⟩ := hu; (simp only [rel.put_lit, List.set_cons_succ, List.set_cons_zero])))
      refine rel.walk_nil ?_
      intro w9 K9 hF
      have hu : IsG w9 (.pointer pz) _ := hF _ (List.mem_cons_self ..)
      clear hF
      simp only [List.drop_succ_cons, List.drop_zero]
      go_wp2
      go_ret
      exact ⟨⟨_, rfl, hu⟩, K9⟩
    obtain rfl : x = y := by omega
    rw [del_mid ha]
    by_cases el : l = .nil
    · subst el
      obtain rfl : c = none := hl
      have hd : IsG w (.pointer d) (Good (keys .nil ++ keys r) (hgt (.node x m .nil r) - 1) (hgt (.node x m .nil r))) := hr.t.g ⟨ir, rfl, by simp only [hgt]; omega, by simp only [hgt]; omega⟩
      clear ihl ihr hv hr k1 k2 il ir ha hx hs q1 q2 hal har
      go_enter Try.func53, Try.ntmps53
      go_wp2_with fail
      go_ret
      exact ⟨⟨_, rfl, hd⟩, Below.refl _ _⟩
    by_cases er : r = .nil
    · subst er
      obtain rfl : d = none := hr
      have hd : IsG w (.pointer c) (Good (keys l ++ keys .nil) (hgt (.node x m l .nil) - 1) (hgt (.node x m l .nil))) := hl.t.g ⟨il, by simp [keys], by simp only [hgt]; omega, by simp only [hgt]; omega⟩
      obtain ⟨h, rfl, -⟩ := hl.some el
      clear ihl ihr hv k1 k2 il ir ha hx hs q1 q2 hal har
      go_enter Try.func53, Try.ntmps53
      go_wp2_with fail
      go_ret
      exact ⟨⟨_, rfl, hd⟩, Below.refl _ _⟩
    obtain ⟨h, rfl, -⟩ := hl.some el
    obtain ⟨h2, rfl, -⟩ := hr.some er
    obtain ⟨z, tl, hz⟩ := keys_ne er
    have hLe := hgt_ne el
    have hRe := hgt_ne er
    have hdz : del z (keys r) = tl := by
      have := del_mid (x := z) (a := []) (b := tl) (by rw [List.nil_append, ← hz]; exact har)
      rw [List.nil_append] at this
      rw [hz, this]
      rfl
    have hle := fun W (hW : Below w.heap.size w W) => least_any (z := z) (hr.grow hW hW.size) (by rw [hz]; rfl)
    have hcl := fun W (hW : Below w.heap.size w W) => ihr z (some ⟨h2, 0, none⟩) W (hr.grow hW hW.size) ir har (by rw [hz]; simp) (by omega)
    rw [hdz] at hcl
    have hbl := fun W u (hW : Below w.heap.size w W) (hu : IsG W (.pointer u) (Good tl (hgt r - 1) (hgt r))) => bal_right (x := z) (T := Good (keys l ++ keys r) (hgt (.node x m l r) - 1) (hgt (.node x m l r))) (hl.grow hW hW.size) hu il
      (by rintro t ⟨h1, h2, h3, h4⟩; exact ⟨h1, by omega, by omega, by omega⟩)
      (by rintro t t' ⟨h1, h2, h3, h4⟩ ⟨b1, b2, b3, b4, b5⟩; exact ⟨b1, by rw [b2, h2, hz], by simp only [hgt]; omega, by simp only [hgt]; omega⟩)
    generalize Good tl (hgt r - 1) (hgt r) = GL at *
    generalize Good (keys l ++ keys r) (hgt (.node x m l r) - 1) (hgt (.node x m l r)) = GT at *
    clear ihl ihr hv hl hr k1 k2 il ir ha hx hs q1 q2 hal har hz hdz hLe hRe el er
    go_enter Try.func53, Try.ntmps53
    go_wp2_with (go_at_call 63; with_reducible refine (hle _ K).mono ?_; clear hle; rintro e w1 ⟨rfl, hb1⟩; replace K := K.trans (hb1.mono K.size); clear hb1)
    apply rel.region_tail (C := fun w' => Below w.heap.size w w') (X := fun w w' => Below w.heap.size w w') 14 (by kernel_rfl) (by kernel_rfl) (by kernel_rfl) (by kernel_rfl) (K.drew)
    (apply rel.walk_val; (focus (intro wq hq hf; go_wp2; refine ⟨hq, Below.refl _ _, ?_, rfl⟩; (show rel.slot _ _ = _; simp only [rel.slot_lit, List.getD_cons_succ, List.getD_cons_zero]; (first | done | exact rfl)))); (simp only [rel.put_lit, List.set_cons_succ, List.set_cons_zero]))
    (apply rel.walk_val; (focus (intro wq hq hf; go_wp2; refine ⟨hq, Below.refl _ _, ?_, rfl⟩; (show rel.slot _ _ = _; simp only [rel.slot_lit, List.getD_cons_succ, List.getD_cons_zero]; (first | done | exact rfl)))); (simp only [rel.put_lit, List.set_cons_succ, List.set_cons_zero]))
    (apply rel.walk_val; (focus (intro wq hq hf; go_wp2; refine ⟨hq, Below.refl _ _, ?_, rfl⟩; (show rel.slot _ _ = _; simp only [rel.slot_lit, List.getD_cons_succ, List.getD_cons_zero]; (first | done | exact rfl)))); (simp only [rel.put_lit, List.set_cons_succ, List.set_cons_zero]))
    (apply rel.walk_val; (focus (intro wq hq hf; go_wp2; refine ⟨hq, Below.refl _ _, ?_, rfl⟩; (show rel.slot _ _ = _; simp only [rel.slot_lit, List.getD_cons_succ, List.getD_cons_zero]; (first | done | exact rfl)))); (simp only [rel.put_lit, List.set_cons_succ, List.set_cons_zero]))
    (apply rel.walk_val; (focus (intro wq hq hf; go_wp2; refine ⟨hq, Below.refl _ _, ?_, rfl⟩; (show rel.slot _ _ = _; simp only [rel.slot_lit, List.getD_cons_succ, List.getD_cons_zero]; (first | done | exact rfl)))); (simp only [rel.put_lit, List.set_cons_succ, List.set_cons_zero]))
    ((apply rel.walk_val; (focus (intro wq hq hf; (have d0 := (hq.cell (p := ⟨g, 2, none⟩) hg).trans g2); go_wp2; refine ⟨hq, Below.refl _ _, ?_, rfl⟩; (show rel.slot _ _ = _; simp only [rel.slot_lit, List.getD_cons_succ, List.getD_cons_zero]; (first | done | exact rfl)))); (simp only [rel.put_lit, List.set_cons_succ, List.set_cons_zero])))
    (apply rel.walk_val; (focus (intro wq hq hf; go_wp2; refine ⟨hq, Below.refl _ _, ?_, rfl⟩; (show rel.slot _ _ = _; simp only [rel.slot_lit, List.getD_cons_succ, List.getD_cons_zero]; (first | done | exact rfl)))); (simp only [rel.put_lit, List.set_cons_succ, List.set_cons_zero]))
    (apply rel.walk_val; (focus (intro wq hq hf; go_wp2; refine ⟨hq, Below.refl _ _, ?_, rfl⟩; (show rel.slot _ _ = _; simp only [rel.slot_lit, List.getD_cons_succ, List.getD_cons_zero]; (first | done | exact rfl)))); (simp only [rel.put_lit, List.set_cons_succ, List.set_cons_zero]))
    (apply rel.walk_val; (focus (intro wq hq hf; go_wp2; refine ⟨hq, Below.refl _ _, ?_, rfl⟩; (show rel.slot _ _ = _; simp only [rel.slot_lit, List.getD_cons_succ, List.getD_cons_zero]; (first | done | exact rfl)))); (simp only [rel.put_lit, List.set_cons_succ, List.set_cons_zero]))
    ((apply rel.walk_val; (focus (intro wq hq hf; (have d0 := (hq.cell (p := ⟨g, 3, none⟩) hg).trans g3); go_wp2; refine ⟨hq, Below.refl _ _, ?_, rfl⟩; (show rel.slot _ _ = _; simp only [rel.slot_lit, List.getD_cons_succ, List.getD_cons_zero]; (first | done | exact rfl)))); (simp only [rel.put_lit, List.set_cons_succ, List.set_cons_zero])))
    (apply rel.walk_val; (focus (intro wq hq hf; go_wp2; refine ⟨hq, Below.refl _ _, ?_, rfl⟩; (show rel.slot _ _ = _; simp only [rel.slot_lit, List.getD_cons_succ, List.getD_cons_zero]; (first | done | exact rfl)))); (simp only [rel.put_lit, List.set_cons_succ, List.set_cons_zero]))
    (apply rel.walk_val; (focus (intro wq hq hf; go_wp2; refine ⟨hq, Below.refl _ _, ?_, rfl⟩; (show rel.slot _ _ = _; simp only [rel.slot_lit, List.getD_cons_succ, List.getD_cons_zero]; (first | done | exact rfl)))); (simp only [rel.put_lit, List.set_cons_succ, List.set_cons_zero]))
    (apply rel.walk_rel (fun u w' => sch.IsG w' u (GL)) ⟨_, rfl⟩ (fun u w1 w2 h1 h2 => h2.on h1); (focus (intro wq hq hf; go_wp2_with (go_at_call 53; with_reducible refine (hcl _ hq).mono ?_; rintro e w'' ⟨⟨u, rfl, hu⟩, hb⟩); refine ⟨hq.trans (hb.mono hq.size), hb, ?_, rfl⟩; (show sch.IsG _ (rel.slot _ _) _; simp only [rel.slot_lit, List.getD_cons_succ, List.getD_cons_zero]; exact hu))); (intro u wu _ hu; obtain ⟨pu, t_pu, rfl, -⟩ := hu; (simp only [rel.put_lit, List.set_cons_succ, List.set_cons_zero])))
    (apply rel.walk_rel (fun u w' => sch.IsG w' u (GT)) ⟨_, rfl⟩ (fun u w1 w2 h1 h2 => h2.on h1); (focus (intro wq hq hf; go_wp2_with (go_at_call 54; with_reducible refine (hbl _ _ hq (hf.get 0 rfl rfl)).mono ?_; rintro e w'' ⟨⟨u, rfl, hu⟩, hb⟩); refine ⟨hq.trans (hb.mono hq.size), hb, ?_, rfl⟩; (show sch.IsG _ (rel.slot _ _) _; simp only [rel.slot_lit, List.getD_cons_succ, List.getD_cons_zero]; exact hu))); (intro u wu _ hu; obtain ⟨pz, t_pz, rfl, -⟩ := hu; (simp only [rel.put_lit, List.set_cons_succ, List.set_cons_zero])))
    refine rel.walk_nil ?_
    intro w9 K9 hF
    have hu : IsG w9 (.pointer pz) _ := hF _ (List.mem_cons_self ..)
    clear hF
    simp only [List.drop_succ_cons, List.drop_zero]
    go_wp2
    go_ret
    exact ⟨⟨_, rfl, hu⟩, K9⟩

end Go.Proofs.Ytlaflhnnddfkkaa.avl
