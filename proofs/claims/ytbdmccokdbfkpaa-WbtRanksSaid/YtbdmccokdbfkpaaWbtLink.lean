/- Package wbt: link, concat, split, union, chosen. -/
import Derived.Test.YtbdmccokdbfkpaaWbtOps
namespace Go.Proofs.Ytbdmccokdbfkpaa.wbt
open Go Go.RowKit
open Go.Proofs.Ytbdmccokdbfkpaa.sch

set_option maxHeartbeats 8000000 in
theorem link_any {x : Int} : ∀ (N : Nat) (a b : Tr) (p q : Option Addr) (w : World), siz a + siz b ≤ N → Nod w.heap.size w a p → Nod w.heap.size w b q → Wb a → Wb b → siz a + siz b < 576460752303423488 →
    Calls Try.prog 59 #[.int .i64 x, .pointer p, .pointer q] w fun e w' => (∃ u, e = .returned u ∧ IsG w' u (Good (keys a ++ x :: keys b))) ∧ Below w.heap.size w w' := by
  intro N
  induction N with
  | zero =>
    intro a b p q w hN ha hb ia ib hs
    have h1 := tooHeavy_any (B := false) ha hb ia ib (by omega) (by omega) (decide_eq_false (by unfold wt; omega)).symm
    have h2 := tooHeavy_any (B := false) hb ha ib ia (by omega) (by omega) (decide_eq_false (by unfold wt; omega)).symm
    have o1 := over_any (x := x) ha.t hb.t ia ib (by omega)
    have hdone : Hid (∀ W u, IsT W u (mkn x a b) → IsG W u (Good (keys a ++ x :: keys b))) := Lib.hid fun W u h => h.g (good_same ia ib (by unfold wt; omega) (by unfold wt; omega))
    clear ha hb ia ib hs hN
    generalize Good (keys a ++ x :: keys b) = GT at *
    generalize mkn x a b = t at *
    go_enter Try.func59, Try.ntmps59
    go_wp2_with (first
      | (go_at_call 52; (with_reducible refine h1.mono ?_); clear h1; rintro e w1 ⟨rfl, rfl⟩)
      | (go_at_call 52; (with_reducible refine h2.mono ?_); clear h2; rintro e w1 ⟨rfl, rfl⟩)
      | (go_at_call 46; (with_reducible refine o1.mono ?_); clear o1; rintro e w1 ⟨⟨u, rfl, hu⟩, hb1⟩))
    go_ret
    exact ⟨⟨_, rfl, hdone.out _ _ hu⟩, hb1⟩
  | succ N ih =>
    intro a b p q w hN ha hb ia ib hs
    by_cases c1 : 3 * wt b < wt a
    · rcases a with _ | ⟨y, m, c, d⟩
      · have := wt_pos b; rw [wt_nil] at c1; omega
      have h1 := tooHeavy_any (B := true) ha hb ia ib (by omega) (by omega) (decide_eq_true c1).symm
      obtain ⟨g, pc, pd, rfl, hg, hv, hc, hd⟩ := ha
      have g0 := hv.cell 0
      have g2 := hv.cell 2
      have g3 := hv.cell 3
      simp only [List.getElem?_cons_zero, List.getElem?_cons_succ] at g0 g2 g3
      obtain ⟨-, k1, k2, ic, id⟩ := ia
      rw [siz_node] at hs hN
      rw [wt_node] at c1
      have hcl := fun W (hW : Below w.heap.size w W) => ih d b pd q W (by omega) (hd.grow hW hW.size) (hb.grow hW hW.size) id ib (by omega)
      have lb : (keys d ++ x :: keys b).length = siz d + 1 + siz b := by rw [List.length_append, List.length_cons]; unfold siz; omega
      have hbl := fun W u (hW : Below w.heap.size w W) (hu : IsG W (.pointer u) (Good (keys d ++ x :: keys b))) => bal_right (x := y) (T := keys (.node y m c d) ++ x :: keys b) (hc.grow hW hW.size) hu ic (by simp [keys])
        (.inl (by rw [lb]; unfold wt at *; omega)) (.inl (by rw [lb]; unfold wt at *; omega)) (by rw [lb]; omega)
      generalize Good (keys d ++ x :: keys b) = GL at *
      generalize Good (keys (.node y m c d) ++ x :: keys b) = GT at *
      have K := Below.refl w.heap.size w
      clear ih hN hv hc hd hb k1 k2 ic id ib hs c1 lb
      go_enter Try.func59, Try.ntmps59
      go_wp2_with (go_at_call 52; (with_reducible refine h1.mono ?_); clear h1; rintro e w1 ⟨rfl, rfl⟩)
      apply rel.region_tail (C := fun w' => Below w.heap.size w w') (X := fun w w' => Below w.heap.size w w') 16 (by kernel_rfl) (by kernel_rfl) (by kernel_rfl) (by kernel_rfl) ((Below.refl w.heap.size w).drew)
      (apply rel.walk_val; (focus (intro wq hq hf; go_wp2; refine ⟨hq, Below.refl _ _, ?_, rfl⟩; (show rel.slot _ _ = _; simp only [rel.slot_lit, List.getD_cons_succ, List.getD_cons_zero]; (first | done | exact rfl)))); (simp only [rel.put_lit, List.set_cons_succ, List.set_cons_zero]))
      (apply rel.walk_val; (focus (intro wq hq hf; go_wp2; refine ⟨hq, Below.refl _ _, ?_, rfl⟩; (show rel.slot _ _ = _; simp only [rel.slot_lit, List.getD_cons_succ, List.getD_cons_zero]; (first | done | exact rfl)))); (simp only [rel.put_lit, List.set_cons_succ, List.set_cons_zero]))
      (apply rel.walk_val; (focus (intro wq hq hf; go_wp2; refine ⟨hq, Below.refl _ _, ?_, rfl⟩; (show rel.slot _ _ = _; simp only [rel.slot_lit, List.getD_cons_succ, List.getD_cons_zero]; (first | done | exact rfl)))); (simp only [rel.put_lit, List.set_cons_succ, List.set_cons_zero]))
      ((apply rel.walk_val; (focus (intro wq hq hf; (have d0 := (hq.cell (p := ⟨g, 0, none⟩) hg).trans g0); go_wp2; refine ⟨hq, Below.refl _ _, ?_, rfl⟩; (show rel.slot _ _ = _; simp only [rel.slot_lit, List.getD_cons_succ, List.getD_cons_zero]; (first | done | exact rfl)))); (simp only [rel.put_lit, List.set_cons_succ, List.set_cons_zero])))
      (apply rel.walk_val; (focus (intro wq hq hf; go_wp2; refine ⟨hq, Below.refl _ _, ?_, rfl⟩; (show rel.slot _ _ = _; simp only [rel.slot_lit, List.getD_cons_succ, List.getD_cons_zero]; (first | done | exact rfl)))); (simp only [rel.put_lit, List.set_cons_succ, List.set_cons_zero]))
      (apply rel.walk_val; (focus (intro wq hq hf; go_wp2; refine ⟨hq, Below.refl _ _, ?_, rfl⟩; (show rel.slot _ _ = _; simp only [rel.slot_lit, List.getD_cons_succ, List.getD_cons_zero]; (first | done | exact rfl)))); (simp only [rel.put_lit, List.set_cons_succ, List.set_cons_zero]))
      (apply rel.walk_val; (focus (intro wq hq hf; go_wp2; refine ⟨hq, Below.refl _ _, ?_, rfl⟩; (show rel.slot _ _ = _; simp only [rel.slot_lit, List.getD_cons_succ, List.getD_cons_zero]; (first | done | exact rfl)))); (simp only [rel.put_lit, List.set_cons_succ, List.set_cons_zero]))
      ((apply rel.walk_val; (focus (intro wq hq hf; (have d0 := (hq.cell (p := ⟨g, 2, none⟩) hg).trans g2); go_wp2; refine ⟨hq, Below.refl _ _, ?_, rfl⟩; (show rel.slot _ _ = _; simp only [rel.slot_lit, List.getD_cons_succ, List.getD_cons_zero]; (first | done | exact rfl)))); (simp only [rel.put_lit, List.set_cons_succ, List.set_cons_zero])))
      (apply rel.walk_val; (focus (intro wq hq hf; go_wp2; refine ⟨hq, Below.refl _ _, ?_, rfl⟩; (show rel.slot _ _ = _; simp only [rel.slot_lit, List.getD_cons_succ, List.getD_cons_zero]; (first | done | exact rfl)))); (simp only [rel.put_lit, List.set_cons_succ, List.set_cons_zero]))
      (apply rel.walk_val; (focus (intro wq hq hf; go_wp2; refine ⟨hq, Below.refl _ _, ?_, rfl⟩; (show rel.slot _ _ = _; simp only [rel.slot_lit, List.getD_cons_succ, List.getD_cons_zero]; (first | done | exact rfl)))); (simp only [rel.put_lit, List.set_cons_succ, List.set_cons_zero]))
      (apply rel.walk_val; (focus (intro wq hq hf; go_wp2; refine ⟨hq, Below.refl _ _, ?_, rfl⟩; (show rel.slot _ _ = _; simp only [rel.slot_lit, List.getD_cons_succ, List.getD_cons_zero]; (first | done | exact rfl)))); (simp only [rel.put_lit, List.set_cons_succ, List.set_cons_zero]))
      (apply rel.walk_val; (focus (intro wq hq hf; go_wp2; refine ⟨hq, Below.refl _ _, ?_, rfl⟩; (show rel.slot _ _ = _; simp only [rel.slot_lit, List.getD_cons_succ, List.getD_cons_zero]; (first | done | exact rfl)))); (simp only [rel.put_lit, List.set_cons_succ, List.set_cons_zero]))
      ((apply rel.walk_val; (focus (intro wq hq hf; (have d0 := (hq.cell (p := ⟨g, 3, none⟩) hg).trans g3); go_wp2; refine ⟨hq, Below.refl _ _, ?_, rfl⟩; (show rel.slot _ _ = _; simp only [rel.slot_lit, List.getD_cons_succ, List.getD_cons_zero]; (first | done | exact rfl)))); (simp only [rel.put_lit, List.set_cons_succ, List.set_cons_zero])))
      (apply rel.walk_val; (focus (intro wq hq hf; go_wp2; refine ⟨hq, Below.refl _ _, ?_, rfl⟩; (show rel.slot _ _ = _; simp only [rel.slot_lit, List.getD_cons_succ, List.getD_cons_zero]; (first | done | exact rfl)))); (simp only [rel.put_lit, List.set_cons_succ, List.set_cons_zero]))
      (apply rel.walk_rel (fun u w' => sch.IsG w' u (GL)) ⟨_, rfl⟩ (fun u w1 w2 h1 h2 => h2.on h1); (focus (intro wq hq hf; go_wp2_with (go_at_call 59; with_reducible refine (hcl _ hq).mono ?_; rintro e w'' ⟨⟨u, rfl, hu⟩, hb⟩); refine ⟨hq.trans (hb.mono hq.size), hb, ?_, rfl⟩; (show sch.IsG _ (rel.slot _ _) _; simp only [rel.slot_lit, List.getD_cons_succ, List.getD_cons_zero]; exact hu))); (intro u wu _ hu; obtain ⟨pu, t_pu, rfl, -⟩ := hu; (simp only [rel.put_lit, List.set_cons_succ, List.set_cons_zero])))
      (apply rel.walk_rel (fun u w' => sch.IsG w' u (GT)) ⟨_, rfl⟩ (fun u w1 w2 h1 h2 => h2.on h1); (focus (intro wq hq hf; go_wp2_with (go_at_call 35; with_reducible refine (hbl _ _ hq (hf.get 0 rfl rfl)).mono ?_; rintro e w'' ⟨⟨u, rfl, hu⟩, hb⟩); refine ⟨hq.trans (hb.mono hq.size), hb, ?_, rfl⟩; (show sch.IsG _ (rel.slot _ _) _; simp only [rel.slot_lit, List.getD_cons_succ, List.getD_cons_zero]; exact hu))); (intro u wu _ hu; obtain ⟨pz, t_pz, rfl, -⟩ := hu; (simp only [rel.put_lit, List.set_cons_succ, List.set_cons_zero])))
      refine rel.walk_nil ?_
      intro w9 K9 hF
      have hu : IsG w9 (.pointer pz) GT := hF _ (List.mem_cons_self ..)
      clear hF
      simp only [List.drop_succ_cons, List.drop_zero]
      go_wp2
      go_ret
      exact ⟨⟨_, rfl, hu⟩, K9⟩
    · by_cases c2 : 3 * wt a < wt b
      · rcases b with _ | ⟨y, m, c, d⟩
        · have := wt_pos a; rw [wt_nil] at c2; omega
        have h1 := tooHeavy_any (B := false) ha hb ia ib (by omega) (by omega) (decide_eq_false c1).symm
        have h2 := tooHeavy_any (B := true) hb ha ib ia (by omega) (by omega) (decide_eq_true c2).symm
        obtain ⟨g, pc, pd, rfl, hg, hv, hc, hd⟩ := hb
        have g0 := hv.cell 0
        have g2 := hv.cell 2
        have g3 := hv.cell 3
        simp only [List.getElem?_cons_zero, List.getElem?_cons_succ] at g0 g2 g3
        obtain ⟨-, k1, k2, ic, id⟩ := ib
        rw [siz_node] at hs hN
        rw [wt_node] at c2
        have hcl := fun W (hW : Below w.heap.size w W) => ih a c p pc W (by omega) (ha.grow hW hW.size) (hc.grow hW hW.size) ia ic (by omega)
        have lb : (keys a ++ x :: keys c).length = siz a + 1 + siz c := by rw [List.length_append, List.length_cons]; unfold siz; omega
        have hbl := fun W u (hW : Below w.heap.size w W) (hu : IsG W (.pointer u) (Good (keys a ++ x :: keys c))) => bal_left (x := y) (T := keys a ++ x :: keys (.node y m c d)) hu (hd.grow hW hW.size) id (by simp [keys])
          (.inl (by rw [lb]; unfold wt at *; omega)) (.inl (by rw [lb]; unfold wt at *; omega)) (by rw [lb]; omega)
        generalize Good (keys a ++ x :: keys c) = GL at *
        generalize Good (keys a ++ x :: keys (.node y m c d)) = GT at *
        have K := Below.refl w.heap.size w
        clear ih hN hv hc hd ha k1 k2 ic id ia hs c1 c2 lb
        go_enter Try.func59, Try.ntmps59
        go_wp2_with (first
          | (go_at_call 52; (with_reducible refine h1.mono ?_); clear h1; rintro e w1 ⟨rfl, rfl⟩)
          | (go_at_call 52; (with_reducible refine h2.mono ?_); clear h2; rintro e w1 ⟨rfl, rfl⟩))
        apply rel.region_tail (C := fun w' => Below w.heap.size w w') (X := fun w w' => Below w.heap.size w w') 16 (by kernel_rfl) (by kernel_rfl) (by kernel_rfl) (by kernel_rfl) ((Below.refl w.heap.size w).drew)
        (apply rel.walk_val; (focus (intro wq hq hf; go_wp2; refine ⟨hq, Below.refl _ _, ?_, rfl⟩; (show rel.slot _ _ = _; simp only [rel.slot_lit, List.getD_cons_succ, List.getD_cons_zero]; (first | done | exact rfl)))); (simp only [rel.put_lit, List.set_cons_succ, List.set_cons_zero]))
        (apply rel.walk_val; (focus (intro wq hq hf; go_wp2; refine ⟨hq, Below.refl _ _, ?_, rfl⟩; (show rel.slot _ _ = _; simp only [rel.slot_lit, List.getD_cons_succ, List.getD_cons_zero]; (first | done | exact rfl)))); (simp only [rel.put_lit, List.set_cons_succ, List.set_cons_zero]))
        (apply rel.walk_val; (focus (intro wq hq hf; go_wp2; refine ⟨hq, Below.refl _ _, ?_, rfl⟩; (show rel.slot _ _ = _; simp only [rel.slot_lit, List.getD_cons_succ, List.getD_cons_zero]; (first | done | exact rfl)))); (simp only [rel.put_lit, List.set_cons_succ, List.set_cons_zero]))
        ((apply rel.walk_val; (focus (intro wq hq hf; (have d0 := (hq.cell (p := ⟨g, 0, none⟩) hg).trans g0); go_wp2; refine ⟨hq, Below.refl _ _, ?_, rfl⟩; (show rel.slot _ _ = _; simp only [rel.slot_lit, List.getD_cons_succ, List.getD_cons_zero]; (first | done | exact rfl)))); (simp only [rel.put_lit, List.set_cons_succ, List.set_cons_zero])))
        (apply rel.walk_val; (focus (intro wq hq hf; go_wp2; refine ⟨hq, Below.refl _ _, ?_, rfl⟩; (show rel.slot _ _ = _; simp only [rel.slot_lit, List.getD_cons_succ, List.getD_cons_zero]; (first | done | exact rfl)))); (simp only [rel.put_lit, List.set_cons_succ, List.set_cons_zero]))
        (apply rel.walk_val; (focus (intro wq hq hf; go_wp2; refine ⟨hq, Below.refl _ _, ?_, rfl⟩; (show rel.slot _ _ = _; simp only [rel.slot_lit, List.getD_cons_succ, List.getD_cons_zero]; (first | done | exact rfl)))); (simp only [rel.put_lit, List.set_cons_succ, List.set_cons_zero]))
        (apply rel.walk_val; (focus (intro wq hq hf; go_wp2; refine ⟨hq, Below.refl _ _, ?_, rfl⟩; (show rel.slot _ _ = _; simp only [rel.slot_lit, List.getD_cons_succ, List.getD_cons_zero]; (first | done | exact rfl)))); (simp only [rel.put_lit, List.set_cons_succ, List.set_cons_zero]))
        (apply rel.walk_val; (focus (intro wq hq hf; go_wp2; refine ⟨hq, Below.refl _ _, ?_, rfl⟩; (show rel.slot _ _ = _; simp only [rel.slot_lit, List.getD_cons_succ, List.getD_cons_zero]; (first | done | exact rfl)))); (simp only [rel.put_lit, List.set_cons_succ, List.set_cons_zero]))
        (apply rel.walk_val; (focus (intro wq hq hf; go_wp2; refine ⟨hq, Below.refl _ _, ?_, rfl⟩; (show rel.slot _ _ = _; simp only [rel.slot_lit, List.getD_cons_succ, List.getD_cons_zero]; (first | done | exact rfl)))); (simp only [rel.put_lit, List.set_cons_succ, List.set_cons_zero]))
        ((apply rel.walk_val; (focus (intro wq hq hf; (have d0 := (hq.cell (p := ⟨g, 2, none⟩) hg).trans g2); go_wp2; refine ⟨hq, Below.refl _ _, ?_, rfl⟩; (show rel.slot _ _ = _; simp only [rel.slot_lit, List.getD_cons_succ, List.getD_cons_zero]; (first | done | exact rfl)))); (simp only [rel.put_lit, List.set_cons_succ, List.set_cons_zero])))
        (apply rel.walk_rel (fun u w' => sch.IsG w' u (GL)) ⟨_, rfl⟩ (fun u w1 w2 h1 h2 => h2.on h1); (focus (intro wq hq hf; go_wp2_with (go_at_call 59; with_reducible refine (hcl _ hq).mono ?_; rintro e w'' ⟨⟨u, rfl, hu⟩, hb⟩); refine ⟨hq.trans (hb.mono hq.size), hb, ?_, rfl⟩; (show sch.IsG _ (rel.slot _ _) _; simp only [rel.slot_lit, List.getD_cons_succ, List.getD_cons_zero]; exact hu))); (intro u wu _ hu; obtain ⟨pu, t_pu, rfl, -⟩ := hu; (simp only [rel.put_lit, List.set_cons_succ, List.set_cons_zero])))
        (apply rel.walk_val; (focus (intro wq hq hf; go_wp2; refine ⟨hq, Below.refl _ _, ?_, rfl⟩; (show rel.slot _ _ = _; simp only [rel.slot_lit, List.getD_cons_succ, List.getD_cons_zero]; (first | done | exact rfl)))); (simp only [rel.put_lit, List.set_cons_succ, List.set_cons_zero]))
        (apply rel.walk_val; (focus (intro wq hq hf; go_wp2; refine ⟨hq, Below.refl _ _, ?_, rfl⟩; (show rel.slot _ _ = _; simp only [rel.slot_lit, List.getD_cons_succ, List.getD_cons_zero]; (first | done | exact rfl)))); (simp only [rel.put_lit, List.set_cons_succ, List.set_cons_zero]))
        (apply rel.walk_val; (focus (intro wq hq hf; go_wp2; refine ⟨hq, Below.refl _ _, ?_, rfl⟩; (show rel.slot _ _ = _; simp only [rel.slot_lit, List.getD_cons_succ, List.getD_cons_zero]; (first | done | exact rfl)))); (simp only [rel.put_lit, List.set_cons_succ, List.set_cons_zero]))
        ((apply rel.walk_val; (focus (intro wq hq hf; (have d0 := (hq.cell (p := ⟨g, 3, none⟩) hg).trans g3); go_wp2; refine ⟨hq, Below.refl _ _, ?_, rfl⟩; (show rel.slot _ _ = _; simp only [rel.slot_lit, List.getD_cons_succ, List.getD_cons_zero]; (first | done | exact rfl)))); (simp only [rel.put_lit, List.set_cons_succ, List.set_cons_zero])))
        (apply rel.walk_rel (fun u w' => sch.IsG w' u (GT)) ⟨_, rfl⟩ (fun u w1 w2 h1 h2 => h2.on h1); (focus (intro wq hq hf; go_wp2_with (go_at_call 35; with_reducible refine (hbl _ _ hq (hf.get 0 rfl rfl)).mono ?_; rintro e w'' ⟨⟨u, rfl, hu⟩, hb⟩); refine ⟨hq.trans (hb.mono hq.size), hb, ?_, rfl⟩; (show sch.IsG _ (rel.slot _ _) _; simp only [rel.slot_lit, List.getD_cons_succ, List.getD_cons_zero]; exact hu))); (intro u wu _ hu; obtain ⟨pz, t_pz, rfl, -⟩ := hu; (simp only [rel.put_lit, List.set_cons_succ, List.set_cons_zero])))
        refine rel.walk_nil ?_
        intro w9 K9 hF
        have hu : IsG w9 (.pointer pz) GT := hF _ (List.mem_cons_self ..)
        clear hF
        simp only [List.drop_succ_cons, List.drop_zero]
        go_wp2
        go_ret
        exact ⟨⟨_, rfl, hu⟩, K9⟩
      · have h1 := tooHeavy_any (B := false) ha hb ia ib (by omega) (by omega) (decide_eq_false c1).symm
        have h2 := tooHeavy_any (B := false) hb ha ib ia (by omega) (by omega) (decide_eq_false c2).symm
        have o1 := over_any (x := x) ha.t hb.t ia ib (by omega)
        have hdone : Hid (∀ W u, IsT W u (mkn x a b) → IsG W u (Good (keys a ++ x :: keys b))) := Lib.hid fun W u h => h.g (good_same ia ib c1 c2)
        clear ih ha hb ia ib hs hN c1 c2
        generalize Good (keys a ++ x :: keys b) = GT at *
        generalize mkn x a b = t at *
        go_enter Try.func59, Try.ntmps59
        go_wp2_with (first
          | (go_at_call 52; (with_reducible refine h1.mono ?_); clear h1; rintro e w1 ⟨rfl, rfl⟩)
          | (go_at_call 52; (with_reducible refine h2.mono ?_); clear h2; rintro e w1 ⟨rfl, rfl⟩)
          | (go_at_call 46; (with_reducible refine o1.mono ?_); clear o1; rintro e w1 ⟨⟨u, rfl, hu⟩, hb1⟩))
        go_ret
        exact ⟨⟨_, rfl, hdone.out _ _ hu⟩, hb1⟩

theorem link_good {x : Int} {A B T : List Int} {p q : Option Addr} {w : World} (ha : IsG w (.pointer p) (Good A)) (hb : IsG w (.pointer q) (Good B)) (hT : A ++ x :: B = T) (hs : A.length + B.length < 576460752303423488) :
    Calls Try.prog 59 #[.int .i64 x, .pointer p, .pointer q] w fun e w' => (∃ u, e = .returned u ∧ IsG w' u (Good T)) ∧ Below w.heap.size w w' := by
  subst hT
  obtain ⟨_, a, he, hn, ga⟩ := ha
  cases he
  obtain ⟨_, b, he, hn', gb⟩ := hb
  cases he
  rw [← ga.siz, ← gb.siz] at hs
  obtain ⟨ia, rfl⟩ := ga
  obtain ⟨ib, rfl⟩ := gb
  exact link_any _ a b p q w (Nat.le_refl _) hn hn' ia ib hs

/-- a pointer to a tree of no number, of some -/
theorem good_nil {w : World} {p : Option Addr} (h : IsG w (.pointer p) (Good [])) : p = none := by
  obtain ⟨_, t, he, hn, -, hk⟩ := h
  cases he
  rcases t with _ | ⟨x, m, l, r⟩
  · exact hn
  · simp [keys] at hk
theorem good_cons {w : World} {p : Option Addr} {z : Int} {tl : List Int} (h : IsG w (.pointer p) (Good (z :: tl))) : ∃ g, p = some ⟨g, 0, none⟩ := by
  obtain ⟨_, t, he, hn, -, hk⟩ := h
  cases he
  rcases t with _ | ⟨x, m, l, r⟩
  · simp [keys] at hk
  · obtain ⟨g, _, _, e, _⟩ := hn
    exact ⟨g, e⟩

set_option maxHeartbeats 8000000 in
theorem concat_good {A B T : List Int} {p q : Option Addr} {w : World} (ha : IsG w (.pointer p) (Good A)) (hb : IsG w (.pointer q) (Good B)) (aB : Asc B) (hT : A ++ B = T) (hs : A.length + B.length < 576460752303423488) :
    Calls Try.prog 50 #[.pointer p, .pointer q] w fun e w' => (∃ u, e = .returned u ∧ IsG w' u (Good T)) ∧ Below w.heap.size w w' := by
  rcases B with _ | ⟨z, tl⟩
  · obtain rfl := good_nil hb
    rw [List.append_nil] at hT
    subst hT
    clear hb aB hs
    go_enter Try.func50, Try.ntmps50
    go_wp2_with fail
    go_ret
    exact ⟨⟨_, rfl, ha⟩, Below.refl _ _⟩
  · obtain ⟨g, rfl⟩ := good_cons hb
    have hle : ∀ W (hW : Below w.heap.size w W), Calls Try.prog 51 #[.pointer (some ⟨g, 0, none⟩)] W fun e w' => e = .returned (.int .i64 z) ∧ Below W.heap.size W w' := by
      intro W hW
      obtain ⟨_, t, he, hn, -, hk⟩ := hb
      cases he
      exact least_any (hn.grow hW hW.size) (by rw [hk]; rfl)
    have hdz : del z (z :: tl) = tl := by
      have := del_mid (x := z) (a := []) (b := tl) aB
      simpa using this
    have hdr : ∀ W (hW : Below w.heap.size w W), Calls Try.prog 34 #[.pointer (some ⟨g, 0, none⟩), .int .i64 z, fbal] W fun e w' => (∃ u, e = .returned u ∧ IsG w' u (Good tl)) ∧ Below W.heap.size W w' := by
      intro W hW
      obtain ⟨_, t, he, hn, gt⟩ := hb
      cases he
      have h1 := gt.siz
      obtain ⟨it, hk⟩ := gt
      have := drop_any t z _ W (hn.grow hW hW.size) it (by rw [hk]; exact aB) (by rw [hk]; simp) (by rw [h1]; omega)
      rw [hk, hdz] at this
      exact this
    have hli := fun W u (hW : Below w.heap.size w W) (hu : IsG W (.pointer u) (Good tl)) => link_good (x := z) (w := W) (ha.on hW) hu hT (by simp only [List.length_cons] at hs; omega)
    generalize Good tl = GL at *
    generalize Good T = GT at *
    have K := Below.refl w.heap.size w
    clear ha hb aB hT hs hdz
    go_enter Try.func50, Try.ntmps50
    go_wp2_with (first
      | (go_at_call 51; (with_reducible refine (hle _ K).mono ?_); clear hle; rintro e w1 ⟨rfl, hb1⟩; replace K := K.trans (hb1.mono K.size); clear hb1)
      | (go_at_call 34; (with_reducible refine (hdr _ K).mono ?_); clear hdr; (rintro e w2 ⟨⟨u, rfl, hu⟩, hb1⟩; replace K := K.trans (hb1.mono K.size); clear hb1; have hu' := hu; obtain ⟨pu, t_u, rfl, -⟩ := hu))
      | (go_at_call 59; (with_reducible refine (hli _ _ K hu').mono ?_); clear hli; rintro e w3 ⟨⟨u, rfl, hu⟩, hb1⟩; replace K := K.trans (hb1.mono K.size); clear hb1))
    go_ret
    exact ⟨⟨_, rfl, hu⟩, K⟩

/-- two trees and a flag -/
def IsS (w : World) (u : Value) (A : List Int) (f : Bool) (B : List Int) : Prop := ∃ q r, u = .tuple #[.pointer q, .bool f, .pointer r] ∧ IsG w (.pointer q) (Good A) ∧ IsG w (.pointer r) (Good B)
theorem IsS.on {w w' : World} {u : Value} {A B : List Int} {f : Bool} (h : IsS w u A f B) (hb : Below w.heap.size w w') : IsS w' u A f B := by
  obtain ⟨q, r, e, h1, h2⟩ := h
  exact ⟨q, r, e, h1.on hb, h2.on hb⟩

set_option maxHeartbeats 8000000 in
theorem split_any {x : Int} : ∀ (t : Tr) (p : Option Addr) (w : World) (f : Bool), f = decide (x ∈ keys t) → Nod w.heap.size w t p → Wb t → Asc (keys t) → siz t < 576460752303423400 →
    Calls Try.prog 47 #[.pointer p, .int .i64 x] w fun e w' => (∃ u, e = .returned u ∧ IsS w' u (lo x (keys t)) f (hi x (keys t))) ∧ Below w.heap.size w w' := by
  intro t
  induction t with
  | nil =>
    rintro p w f hf hn - - -
    obtain rfl : p = none := hn
    obtain rfl : f = false := by rw [hf]; simp [keys]
    have h0 : ∀ w, IsG w (.pointer none) (Good (lo x (keys .nil))) := fun w => ⟨none, .nil, rfl, rfl, Good.nil⟩
    have h1 : ∀ w, IsG w (.pointer none) (Good (hi x (keys .nil))) := fun w => ⟨none, .nil, rfl, rfl, Good.nil⟩
    clear hf
    go_enter Try.func47, Try.ntmps47
    go_wp2_with fail
    go_ret3
    exact ⟨⟨_, rfl, none, none, rfl, h0 _, h1 _⟩, Below.refl _ _⟩
  | node y m l r ihl ihr =>
    rintro p w f hf ⟨g, c, d, rfl, hg, hv, hl, hr⟩ ⟨-, k1, k2, il, ir⟩ ha hs
    have g0 := hv.cell 0
    have g2 := hv.cell 2
    have g3 := hv.cell 3
    simp only [List.getElem?_cons_zero, List.getElem?_cons_succ] at g0 g2 g3
    rw [siz_node] at hs
    simp only [keys] at ha hf ⊢
    obtain ⟨hal, har, -, -⟩ := asc_node.1 ha
    have K := Below.refl w.heap.size w
    by_cases hlt : x < y
    · have hcl := fun W (hW : Below w.heap.size w W) => ihl c W f (by rw [hf]; exact decide_eq_decide.2 (sch.mem_left ha hlt)) (hl.grow hW hW.size) il hal (by omega)
      rw [lo_left ha (by omega), hi_left ha hlt]
      have hli := fun W u (hW : Below w.heap.size w W) (hu : IsG W (.pointer u) (Good (hi x (keys l)))) => link_good (x := y) (w := W) hu ((hr.grow hW hW.size).t.g ⟨ir, rfl⟩ : IsG W (.pointer d) (Good (keys r))) rfl (by have := hi_le x (keys l); unfold siz at hs; omega)
      have hdone : Hid (∀ W q r', IsG W (.pointer q) (Good (lo x (keys l))) → IsG W (.pointer r') (Good (hi x (keys l) ++ y :: keys r)) → IsS W (.tuple #[.pointer q, .bool f, .pointer r']) (lo x (keys l)) f (hi x (keys l) ++ y :: keys r)) := Lib.hid fun W q r' h1 h2 => ⟨q, r', rfl, h1, h2⟩
      generalize hGL : Good (hi x (keys l) ++ y :: keys r) = GL at *
      replace hGL := Lib.hid hGL
      clear ihl ihr hf hv hl hr k1 k2 il ir ha hs hal har
      go_enter Try.func47, Try.ntmps47
      go_wp2_with (go_at_call 47; (with_reducible refine (hcl _ K).mono ?_); clear hcl; rintro e w1 ⟨⟨u, rfl, hu⟩, hb1⟩; replace K := K.trans (hb1.mono K.size); clear hb1; (obtain ⟨q1, r1, rfl, hq1, hr1⟩ := hu); have f0 := (K.cell (p := ⟨g, 0, none⟩) hg).trans g0; have f2 := (K.cell (p := ⟨g, 2, none⟩) hg).trans g2; have f3 := (K.cell (p := ⟨g, 3, none⟩) hg).trans g3; have hg2 := Nat.lt_of_lt_of_le hg K.size)
      apply rel.region (C := fun w' => Below w1.heap.size w1 w') (X := fun w w' => Below w.heap.size w w') (by kernel_rfl) (by kernel_rfl) (by kernel_rfl) ((Below.refl _ _).drew)
      (apply rel.walk_val; (focus (intro wq hq hf; go_wp2; refine ⟨hq, Below.refl _ _, ?_, rfl⟩; (show rel.slot _ _ = _; simp only [rel.slot_lit, List.getD_cons_succ, List.getD_cons_zero]; (first | done | exact rfl)))); (simp only [rel.put_lit, List.set_cons_succ, List.set_cons_zero]))
      (apply rel.walk_val; (focus (intro wq hq hf; go_wp2; refine ⟨hq, Below.refl _ _, ?_, rfl⟩; (show rel.slot _ _ = _; simp only [rel.slot_lit, List.getD_cons_succ, List.getD_cons_zero]; (first | done | exact rfl)))); (simp only [rel.put_lit, List.set_cons_succ, List.set_cons_zero]))
      (apply rel.walk_val; (focus (intro wq hq hf; go_wp2; refine ⟨hq, Below.refl _ _, ?_, rfl⟩; (show rel.slot _ _ = _; simp only [rel.slot_lit, List.getD_cons_succ, List.getD_cons_zero]; (first | done | exact rfl)))); (simp only [rel.put_lit, List.set_cons_succ, List.set_cons_zero]))
      (apply rel.walk_val; (focus (intro wq hq hf; go_wp2; refine ⟨hq, Below.refl _ _, ?_, rfl⟩; (show rel.slot _ _ = _; simp only [rel.slot_lit, List.getD_cons_succ, List.getD_cons_zero]; (first | done | exact rfl)))); (simp only [rel.put_lit, List.set_cons_succ, List.set_cons_zero]))
      (apply rel.walk_val; (focus (intro wq hq hf; go_wp2; refine ⟨hq, Below.refl _ _, ?_, rfl⟩; (show rel.slot _ _ = _; simp only [rel.slot_lit, List.getD_cons_succ, List.getD_cons_zero]; (first | done | exact rfl)))); (simp only [rel.put_lit, List.set_cons_succ, List.set_cons_zero]))
      ((apply rel.walk_val; (focus (intro wq hq hf; (have d0 := (hq.cell (p := ⟨g, 0, none⟩) hg2).trans f0); go_wp2; refine ⟨hq, Below.refl _ _, ?_, rfl⟩; (show rel.slot _ _ = _; simp only [rel.slot_lit, List.getD_cons_succ, List.getD_cons_zero]; (first | done | exact rfl)))); (simp only [rel.put_lit, List.set_cons_succ, List.set_cons_zero])))
      (apply rel.walk_val; (focus (intro wq hq hf; go_wp2; refine ⟨hq, Below.refl _ _, ?_, rfl⟩; (show rel.slot _ _ = _; simp only [rel.slot_lit, List.getD_cons_succ, List.getD_cons_zero]; (first | done | exact rfl)))); (simp only [rel.put_lit, List.set_cons_succ, List.set_cons_zero]))
      (apply rel.walk_val; (focus (intro wq hq hf; go_wp2; refine ⟨hq, Below.refl _ _, ?_, rfl⟩; (show rel.slot _ _ = _; simp only [rel.slot_lit, List.getD_cons_succ, List.getD_cons_zero]; (first | done | exact rfl)))); (simp only [rel.put_lit, List.set_cons_succ, List.set_cons_zero]))
      (apply rel.walk_val; (focus (intro wq hq hf; go_wp2; refine ⟨hq, Below.refl _ _, ?_, rfl⟩; (show rel.slot _ _ = _; simp only [rel.slot_lit, List.getD_cons_succ, List.getD_cons_zero]; (first | done | exact rfl)))); (simp only [rel.put_lit, List.set_cons_succ, List.set_cons_zero]))
      (apply rel.walk_val; (focus (intro wq hq hf; go_wp2; refine ⟨hq, Below.refl _ _, ?_, rfl⟩; (show rel.slot _ _ = _; simp only [rel.slot_lit, List.getD_cons_succ, List.getD_cons_zero]; (first | done | exact rfl)))); (simp only [rel.put_lit, List.set_cons_succ, List.set_cons_zero]))
      ((apply rel.walk_val; (focus (intro wq hq hf; (have d0 := (hq.cell (p := ⟨g, 3, none⟩) hg2).trans f3); go_wp2; refine ⟨hq, Below.refl _ _, ?_, rfl⟩; (show rel.slot _ _ = _; simp only [rel.slot_lit, List.getD_cons_succ, List.getD_cons_zero]; (first | done | exact rfl)))); (simp only [rel.put_lit, List.set_cons_succ, List.set_cons_zero])))
      (apply rel.walk_rel (fun u w' => sch.IsG w' u (GL)) ⟨_, rfl⟩ (fun u w1 w2 h1 h2 => h2.on h1); (focus (intro wq hq hf; go_wp2_with (go_at_call 59; with_reducible refine (hli _ _ (K.trans (hq.mono K.size)) (hr1.on hq)).mono ?_; rintro e w'' ⟨⟨u, rfl, hu⟩, hb⟩); refine ⟨hq.trans (hb.mono hq.size), hb, ?_, rfl⟩; (show sch.IsG _ (rel.slot _ _) _; simp only [rel.slot_lit, List.getD_cons_succ, List.getD_cons_zero]; exact hu))); (intro u wu _ hu; obtain ⟨pu, t_pu, rfl, -⟩ := hu; (simp only [rel.put_lit, List.set_cons_succ, List.set_cons_zero])))
      (apply rel.walk_val; (focus (intro wq hq hf; go_wp2; refine ⟨hq, Below.refl _ _, ?_, rfl⟩; (show rel.slot _ _ = _; simp only [rel.slot_lit, List.getD_cons_succ, List.getD_cons_zero]; (first | done | exact rfl)))); (simp only [rel.put_lit, List.set_cons_succ, List.set_cons_zero]))
      (apply rel.walk_val; (focus (intro wq hq hf; go_wp2; refine ⟨hq, Below.refl _ _, ?_, rfl⟩; (show rel.slot _ _ = _; simp only [rel.slot_lit, List.getD_cons_succ, List.getD_cons_zero]; (first | done | exact rfl)))); (simp only [rel.put_lit, List.set_cons_succ, List.set_cons_zero]))
      (apply rel.walk_rel (fun u w' => sch.IsG w' u (GL)) ⟨_, rfl⟩ (fun u w1 w2 h1 h2 => h2.on h1); (focus (intro wq hq hf; have h0 := hf.get 0 rfl rfl; go_wp2; refine ⟨hq, Below.refl _ _, ?_, rfl⟩; (show sch.IsG _ (rel.slot _ _) _; simp only [rel.slot_lit, List.getD_cons_succ, List.getD_cons_zero]; exact h0))); (intro u wu _ hu; obtain ⟨pz, t_pz, rfl, -⟩ := hu; (simp only [rel.put_lit, List.set_cons_succ, List.set_cons_zero])))
      refine rel.walk_nil ?_
      intro w9 K9 hF
      have hu : IsG w9 (.pointer pz) GL := hF _ (List.mem_cons_self ..)
      clear hF
      go_wp2
      go_ret3
      exact ⟨⟨_, rfl, hdone.out _ _ _ (hq1.on K9) hu⟩, K.trans (K9.mono K.size)⟩
    by_cases hgt : y < x
    · have hcl := fun W (hW : Below w.heap.size w W) => ihr d W f (by rw [hf]; exact decide_eq_decide.2 (sch.mem_right ha hgt)) (hr.grow hW hW.size) ir har (by omega)
      rw [hi_right ha (by omega), lo_right ha hgt]
      have hli := fun W u (hW : Below w.heap.size w W) (hu : IsG W (.pointer u) (Good (lo x (keys r)))) => link_good (x := y) (w := W) ((hl.grow hW hW.size).t.g ⟨il, rfl⟩ : IsG W (.pointer c) (Good (keys l))) hu rfl (by have := lo_le x (keys r); unfold siz at hs; omega)
      have hdone : Hid (∀ W q r', IsG W (.pointer q) (Good (keys l ++ y :: lo x (keys r))) → IsG W (.pointer r') (Good (hi x (keys r))) → IsS W (.tuple #[.pointer q, .bool f, .pointer r']) (keys l ++ y :: lo x (keys r)) f (hi x (keys r))) := Lib.hid fun W q r' h1 h2 => ⟨q, r', rfl, h1, h2⟩
      generalize hGL : Good (keys l ++ y :: lo x (keys r)) = GL at *
      replace hGL := Lib.hid hGL
      clear ihl ihr hf hv hl hr k1 k2 il ir ha hs hal har
      go_enter Try.func47, Try.ntmps47
      go_wp2_with (go_at_call 47; (with_reducible refine (hcl _ K).mono ?_); clear hcl; rintro e w1 ⟨⟨u, rfl, hu⟩, hb1⟩; replace K := K.trans (hb1.mono K.size); clear hb1; (obtain ⟨q1, r1, rfl, hq1, hr1⟩ := hu); have f0 := (K.cell (p := ⟨g, 0, none⟩) hg).trans g0; have f2 := (K.cell (p := ⟨g, 2, none⟩) hg).trans g2; have f3 := (K.cell (p := ⟨g, 3, none⟩) hg).trans g3; have hg2 := Nat.lt_of_lt_of_le hg K.size)
      apply rel.region (C := fun w' => Below w1.heap.size w1 w') (X := fun w w' => Below w.heap.size w w') (by kernel_rfl) (by kernel_rfl) (by kernel_rfl) ((Below.refl _ _).drew)
      (apply rel.walk_val; (focus (intro wq hq hf; go_wp2; refine ⟨hq, Below.refl _ _, ?_, rfl⟩; (show rel.slot _ _ = _; simp only [rel.slot_lit, List.getD_cons_succ, List.getD_cons_zero]; (first | done | exact rfl)))); (simp only [rel.put_lit, List.set_cons_succ, List.set_cons_zero]))
      (apply rel.walk_val; (focus (intro wq hq hf; go_wp2; refine ⟨hq, Below.refl _ _, ?_, rfl⟩; (show rel.slot _ _ = _; simp only [rel.slot_lit, List.getD_cons_succ, List.getD_cons_zero]; (first | done | exact rfl)))); (simp only [rel.put_lit, List.set_cons_succ, List.set_cons_zero]))
      (apply rel.walk_val; (focus (intro wq hq hf; go_wp2; refine ⟨hq, Below.refl _ _, ?_, rfl⟩; (show rel.slot _ _ = _; simp only [rel.slot_lit, List.getD_cons_succ, List.getD_cons_zero]; (first | done | exact rfl)))); (simp only [rel.put_lit, List.set_cons_succ, List.set_cons_zero]))
      ((apply rel.walk_val; (focus (intro wq hq hf; (have d0 := (hq.cell (p := ⟨g, 0, none⟩) hg2).trans f0); go_wp2; refine ⟨hq, Below.refl _ _, ?_, rfl⟩; (show rel.slot _ _ = _; simp only [rel.slot_lit, List.getD_cons_succ, List.getD_cons_zero]; (first | done | exact rfl)))); (simp only [rel.put_lit, List.set_cons_succ, List.set_cons_zero])))
      (apply rel.walk_val; (focus (intro wq hq hf; go_wp2; refine ⟨hq, Below.refl _ _, ?_, rfl⟩; (show rel.slot _ _ = _; simp only [rel.slot_lit, List.getD_cons_succ, List.getD_cons_zero]; (first | done | exact rfl)))); (simp only [rel.put_lit, List.set_cons_succ, List.set_cons_zero]))
      (apply rel.walk_val; (focus (intro wq hq hf; go_wp2; refine ⟨hq, Below.refl _ _, ?_, rfl⟩; (show rel.slot _ _ = _; simp only [rel.slot_lit, List.getD_cons_succ, List.getD_cons_zero]; (first | done | exact rfl)))); (simp only [rel.put_lit, List.set_cons_succ, List.set_cons_zero]))
      (apply rel.walk_val; (focus (intro wq hq hf; go_wp2; refine ⟨hq, Below.refl _ _, ?_, rfl⟩; (show rel.slot _ _ = _; simp only [rel.slot_lit, List.getD_cons_succ, List.getD_cons_zero]; (first | done | exact rfl)))); (simp only [rel.put_lit, List.set_cons_succ, List.set_cons_zero]))
      ((apply rel.walk_val; (focus (intro wq hq hf; (have d0 := (hq.cell (p := ⟨g, 2, none⟩) hg2).trans f2); go_wp2; refine ⟨hq, Below.refl _ _, ?_, rfl⟩; (show rel.slot _ _ = _; simp only [rel.slot_lit, List.getD_cons_succ, List.getD_cons_zero]; (first | done | exact rfl)))); (simp only [rel.put_lit, List.set_cons_succ, List.set_cons_zero])))
      (apply rel.walk_val; (focus (intro wq hq hf; go_wp2; refine ⟨hq, Below.refl _ _, ?_, rfl⟩; (show rel.slot _ _ = _; simp only [rel.slot_lit, List.getD_cons_succ, List.getD_cons_zero]; (first | done | exact rfl)))); (simp only [rel.put_lit, List.set_cons_succ, List.set_cons_zero]))
      (apply rel.walk_rel (fun u w' => sch.IsG w' u (GL)) ⟨_, rfl⟩ (fun u w1 w2 h1 h2 => h2.on h1); (focus (intro wq hq hf; go_wp2_with (go_at_call 59; with_reducible refine (hli _ _ (K.trans (hq.mono K.size)) (hq1.on hq)).mono ?_; rintro e w'' ⟨⟨u, rfl, hu⟩, hb⟩); refine ⟨hq.trans (hb.mono hq.size), hb, ?_, rfl⟩; (show sch.IsG _ (rel.slot _ _) _; simp only [rel.slot_lit, List.getD_cons_succ, List.getD_cons_zero]; exact hu))); (intro u wu _ hu; obtain ⟨pu, t_pu, rfl, -⟩ := hu; (simp only [rel.put_lit, List.set_cons_succ, List.set_cons_zero])))
      (apply rel.walk_val; (focus (intro wq hq hf; go_wp2; refine ⟨hq, Below.refl _ _, ?_, rfl⟩; (show rel.slot _ _ = _; simp only [rel.slot_lit, List.getD_cons_succ, List.getD_cons_zero]; (first | done | exact rfl)))); (simp only [rel.put_lit, List.set_cons_succ, List.set_cons_zero]))
      (apply rel.walk_val; (focus (intro wq hq hf; go_wp2; refine ⟨hq, Below.refl _ _, ?_, rfl⟩; (show rel.slot _ _ = _; simp only [rel.slot_lit, List.getD_cons_succ, List.getD_cons_zero]; (first | done | exact rfl)))); (simp only [rel.put_lit, List.set_cons_succ, List.set_cons_zero]))
      (apply rel.walk_rel (fun u w' => sch.IsG w' u (GL)) ⟨_, rfl⟩ (fun u w1 w2 h1 h2 => h2.on h1); (focus (intro wq hq hf; have h0 := hf.get 0 rfl rfl; go_wp2; refine ⟨hq, Below.refl _ _, ?_, rfl⟩; (show sch.IsG _ (rel.slot _ _) _; simp only [rel.slot_lit, List.getD_cons_succ, List.getD_cons_zero]; exact h0))); (intro u wu _ hu; obtain ⟨pz, t_pz, rfl, -⟩ := hu; (simp only [rel.put_lit, List.set_cons_succ, List.set_cons_zero])))
      (apply rel.walk_val; (focus (intro wq hq hf; go_wp2; refine ⟨hq, Below.refl _ _, ?_, rfl⟩; (show rel.slot _ _ = _; simp only [rel.slot_lit, List.getD_cons_succ, List.getD_cons_zero]; (first | done | exact rfl)))); (simp only [rel.put_lit, List.set_cons_succ, List.set_cons_zero]))
      (apply rel.walk_val; (focus (intro wq hq hf; go_wp2; refine ⟨hq, Below.refl _ _, ?_, rfl⟩; (show rel.slot _ _ = _; simp only [rel.slot_lit, List.getD_cons_succ, List.getD_cons_zero]; (first | done | exact rfl)))); (simp only [rel.put_lit, List.set_cons_succ, List.set_cons_zero]))
      refine rel.walk_nil ?_
      intro w9 K9 hF
      have hu : IsG w9 (.pointer pz) GL := hF _ (List.mem_cons_self ..)
      clear hF
      go_wp2
      go_ret3
      exact ⟨⟨_, rfl, hdone.out _ _ _ hu (hr1.on K9)⟩, K.trans (K9.mono K.size)⟩
    · obtain rfl : x = y := by omega
      obtain rfl : f = true := by rw [hf]; simp
      rw [lo_mid ha, hi_mid ha]
      have h1 := fun W (hW : Below w.heap.size w W) => ((hl.grow hW hW.size).t.g ⟨il, rfl⟩ : IsG W (.pointer c) (Good (keys l)))
      have h2 := fun W (hW : Below w.heap.size w W) => ((hr.grow hW hW.size).t.g ⟨ir, rfl⟩ : IsG W (.pointer d) (Good (keys r)))
      clear ihl ihr hf hv hl hr k1 k2 il ir ha hs hal har hlt hgt K
      go_enter Try.func47, Try.ntmps47
      go_wp2_with fail
      apply rel.region (C := fun w' => Below w.heap.size w w') (X := fun w w' => Below w.heap.size w w') (by kernel_rfl) (by kernel_rfl) (by kernel_rfl) ((Below.refl _ _).drew)
      (apply rel.walk_val; (focus (intro wq hq hf; go_wp2; refine ⟨hq, Below.refl _ _, ?_, rfl⟩; (show rel.slot _ _ = _; simp only [rel.slot_lit, List.getD_cons_succ, List.getD_cons_zero]; (first | done | exact rfl)))); (simp only [rel.put_lit, List.set_cons_succ, List.set_cons_zero]))
      (apply rel.walk_val; (focus (intro wq hq hf; go_wp2; refine ⟨hq, Below.refl _ _, ?_, rfl⟩; (show rel.slot _ _ = _; simp only [rel.slot_lit, List.getD_cons_succ, List.getD_cons_zero]; (first | done | exact rfl)))); (simp only [rel.put_lit, List.set_cons_succ, List.set_cons_zero]))
      (apply rel.walk_val; (focus (intro wq hq hf; go_wp2; refine ⟨hq, Below.refl _ _, ?_, rfl⟩; (show rel.slot _ _ = _; simp only [rel.slot_lit, List.getD_cons_succ, List.getD_cons_zero]; (first | done | exact rfl)))); (simp only [rel.put_lit, List.set_cons_succ, List.set_cons_zero]))
      ((apply rel.walk_val; (focus (intro wq hq hf; (have d0 := (hq.cell (p := ⟨g, 2, none⟩) hg).trans g2); go_wp2; refine ⟨hq, Below.refl _ _, ?_, rfl⟩; (show rel.slot _ _ = _; simp only [rel.slot_lit, List.getD_cons_succ, List.getD_cons_zero]; (first | done | exact rfl)))); (simp only [rel.put_lit, List.set_cons_succ, List.set_cons_zero])))
      (apply rel.walk_val; (focus (intro wq hq hf; go_wp2; refine ⟨hq, Below.refl _ _, ?_, rfl⟩; (show rel.slot _ _ = _; simp only [rel.slot_lit, List.getD_cons_succ, List.getD_cons_zero]; (first | done | exact rfl)))); (simp only [rel.put_lit, List.set_cons_succ, List.set_cons_zero]))
      (apply rel.walk_val; (focus (intro wq hq hf; go_wp2; refine ⟨hq, Below.refl _ _, ?_, rfl⟩; (show rel.slot _ _ = _; simp only [rel.slot_lit, List.getD_cons_succ, List.getD_cons_zero]; (first | done | exact rfl)))); (simp only [rel.put_lit, List.set_cons_succ, List.set_cons_zero]))
      (apply rel.walk_val; (focus (intro wq hq hf; go_wp2; refine ⟨hq, Below.refl _ _, ?_, rfl⟩; (show rel.slot _ _ = _; simp only [rel.slot_lit, List.getD_cons_succ, List.getD_cons_zero]; (first | done | exact rfl)))); (simp only [rel.put_lit, List.set_cons_succ, List.set_cons_zero]))
      ((apply rel.walk_val; (focus (intro wq hq hf; (have d0 := (hq.cell (p := ⟨g, 3, none⟩) hg).trans g3); go_wp2; refine ⟨hq, Below.refl _ _, ?_, rfl⟩; (show rel.slot _ _ = _; simp only [rel.slot_lit, List.getD_cons_succ, List.getD_cons_zero]; (first | done | exact rfl)))); (simp only [rel.put_lit, List.set_cons_succ, List.set_cons_zero])))
      (apply rel.walk_val; (focus (intro wq hq hf; go_wp2; refine ⟨hq, Below.refl _ _, ?_, rfl⟩; (show rel.slot _ _ = _; simp only [rel.slot_lit, List.getD_cons_succ, List.getD_cons_zero]; (first | done | exact rfl)))); (simp only [rel.put_lit, List.set_cons_succ, List.set_cons_zero]))
      (apply rel.walk_val; (focus (intro wq hq hf; go_wp2; refine ⟨hq, Below.refl _ _, ?_, rfl⟩; (show rel.slot _ _ = _; simp only [rel.slot_lit, List.getD_cons_succ, List.getD_cons_zero]; (first | done | exact rfl)))); (simp only [rel.put_lit, List.set_cons_succ, List.set_cons_zero]))
      (apply rel.walk_val; (focus (intro wq hq hf; go_wp2; refine ⟨hq, Below.refl _ _, ?_, rfl⟩; (show rel.slot _ _ = _; simp only [rel.slot_lit, List.getD_cons_succ, List.getD_cons_zero]; (first | done | exact rfl)))); (simp only [rel.put_lit, List.set_cons_succ, List.set_cons_zero]))
      refine rel.walk_nil ?_
      intro w9 K9 hF
      clear hF
      go_wp2
      go_ret3
      exact ⟨⟨_, rfl, _, _, rfl, h1 _ K9, h2 _ K9⟩, K9⟩

set_option maxHeartbeats 8000000 in
theorem union_any : ∀ (t : Tr) (p q : Option Addr) (L : List Int) (w : World), Nod w.heap.size w t p → Wb t → Asc (keys t) → IsG w (.pointer q) (Good L) → Asc L → siz t + L.length < 576460752303423400 →
    Calls Try.prog 48 #[.pointer p, .pointer q] w fun e w' => (∃ u, e = .returned u ∧ IsG w' u (Good (uni (keys t) L))) ∧ Below w.heap.size w w' := by
  intro t
  induction t with
  | nil =>
    rintro p q L w hn - - hL aL -
    obtain rfl : p = none := hn
    rw [show uni (keys .nil) L = L from uni_nil aL]
    go_enter Try.func48, Try.ntmps48
    go_wp2_with fail
    go_ret
    exact ⟨⟨_, rfl, hL⟩, Below.refl _ _⟩
  | node y m l r ihl ihr =>
    rintro p q L w hn hi ha hL aL hs
    rcases L with _ | ⟨z, tl⟩
    · obtain rfl := good_nil hL
      rw [nil_uni ha]
      have hd := hn.t.g (G := Good (keys (.node y m l r))) ⟨hi, rfl⟩
      obtain ⟨g, c, d, rfl, hg, -⟩ := hn
      clear ihl ihr ha hL aL hs hi
      go_enter Try.func48, Try.ntmps48
      go_wp2_with fail
      go_ret
      exact ⟨⟨_, rfl, hd⟩, Below.refl _ _⟩
    · obtain ⟨h, rfl⟩ := good_cons hL
      generalize z :: tl = L at *
      obtain ⟨g, c, d, rfl, hg, hv, hl, hr⟩ := hn
      obtain ⟨-, k1, k2, il, ir⟩ := hi
      have g0 := hv.cell 0
      have g2 := hv.cell 2
      have g3 := hv.cell 3
      simp only [List.getElem?_cons_zero, List.getElem?_cons_succ] at g0 g2 g3
      rw [siz_node] at hs
      simp only [keys] at ha ⊢
      obtain ⟨hal, har, -, -⟩ := asc_node.1 ha
      obtain ⟨hs1, hs2⟩ := uni_node (K := L) ha
      have l1 := lo_hi_le y L
      have l2 := uni_le (keys l) (lo y L)
      have l3 := uni_le (keys r) (hi y L)
      have sl : siz l = (keys l).length := rfl
      have sr : siz r = (keys r).length := rfl
      have hsp : ∀ W (hW : Below w.heap.size w W), Calls Try.prog 47 #[.pointer (some ⟨h, 0, none⟩), .int .i64 y] W fun e w' => (∃ u, e = .returned u ∧ IsS w' u (lo y L) (decide (y ∈ L)) (hi y L)) ∧ Below W.heap.size W w' := by
        intro W hW
        obtain ⟨_, t, he, hn, gt⟩ := hL
        cases he
        have h1 := gt.siz
        obtain ⟨it, hk⟩ := gt
        have := split_any (x := y) t _ W _ rfl (hn.grow hW hW.size) it (by rw [hk]; exact aL) (by rw [h1]; omega)
        rw [hk] at this
        exact this
      have hcl := fun W u (hW : Below w.heap.size w W) (hu : IsG W (.pointer u) (Good (lo y L))) => ihl c u (lo y L) W (hl.grow hW hW.size) il hal hu (lo_asc y aL) (by omega)
      have hcr := fun W u (hW : Below w.heap.size w W) (hu : IsG W (.pointer u) (Good (hi y L))) => ihr d u (hi y L) W (hr.grow hW hW.size) ir har hu (hi_asc y aL) (by omega)
      have hli := fun W u v (hW : Below w.heap.size w W) (hu : IsG W (.pointer u) (Good (uni (keys l) (lo y L)))) (hv : IsG W (.pointer v) (Good (uni (keys r) (hi y L)))) => link_good (x := y) (w := W) hu hv hs2 (by omega)
      generalize Good (uni (keys l) (lo y L)) = GA at *
      generalize Good (uni (keys r) (hi y L)) = GB at *
      generalize Good (uni (keys l ++ y :: keys r) L) = GT at *
      generalize decide (y ∈ L) = f at *
      generalize lo y L = L1 at *
      generalize hi y L = L2 at *
      have K := Below.refl w.heap.size w
      clear ihl ihr hv hl hr k1 k2 il ir ha hs hal har hs1 hs2 l1 l2 l3 sl sr hL aL
      go_enter Try.func48, Try.ntmps48
      go_wp2_with (go_at_call 47; (with_reducible refine (hsp _ K).mono ?_); clear hsp; rintro e w1 ⟨⟨u, rfl, hu⟩, hb1⟩; replace K := K.trans (hb1.mono K.size); clear hb1; (obtain ⟨q1, r1, rfl, hq1, hr1⟩ := hu); have f0 := (K.cell (p := ⟨g, 0, none⟩) hg).trans g0; have f2 := (K.cell (p := ⟨g, 2, none⟩) hg).trans g2; have f3 := (K.cell (p := ⟨g, 3, none⟩) hg).trans g3; have hg2 := Nat.lt_of_lt_of_le hg K.size)
      apply rel.region_tail (C := fun w' => Below w1.heap.size w1 w') (X := fun w w' => Below w.heap.size w w') 17 (by kernel_rfl) (by kernel_rfl) (by kernel_rfl) (by kernel_rfl) ((Below.refl w1.heap.size w1).drew)
      (apply rel.walk_val; (focus (intro wq hq hf; go_wp2; refine ⟨hq, Below.refl _ _, ?_, rfl⟩; (show rel.slot _ _ = _; simp only [rel.slot_lit, List.getD_cons_succ, List.getD_cons_zero]; (first | done | exact rfl)))); (simp only [rel.put_lit, List.set_cons_succ, List.set_cons_zero]))
      (apply rel.walk_val; (focus (intro wq hq hf; go_wp2; refine ⟨hq, Below.refl _ _, ?_, rfl⟩; (show rel.slot _ _ = _; simp only [rel.slot_lit, List.getD_cons_succ, List.getD_cons_zero]; (first | done | exact rfl)))); (simp only [rel.put_lit, List.set_cons_succ, List.set_cons_zero]))
      (apply rel.walk_val; (focus (intro wq hq hf; go_wp2; refine ⟨hq, Below.refl _ _, ?_, rfl⟩; (show rel.slot _ _ = _; simp only [rel.slot_lit, List.getD_cons_succ, List.getD_cons_zero]; (first | done | exact rfl)))); (simp only [rel.put_lit, List.set_cons_succ, List.set_cons_zero]))
      ((apply rel.walk_val; (focus (intro wq hq hf; (have d0 := (hq.cell (p := ⟨g, 0, none⟩) hg2).trans f0); go_wp2; refine ⟨hq, Below.refl _ _, ?_, rfl⟩; (show rel.slot _ _ = _; simp only [rel.slot_lit, List.getD_cons_succ, List.getD_cons_zero]; (first | done | exact rfl)))); (simp only [rel.put_lit, List.set_cons_succ, List.set_cons_zero])))
      (apply rel.walk_val; (focus (intro wq hq hf; go_wp2; refine ⟨hq, Below.refl _ _, ?_, rfl⟩; (show rel.slot _ _ = _; simp only [rel.slot_lit, List.getD_cons_succ, List.getD_cons_zero]; (first | done | exact rfl)))); (simp only [rel.put_lit, List.set_cons_succ, List.set_cons_zero]))
      (apply rel.walk_val; (focus (intro wq hq hf; go_wp2; refine ⟨hq, Below.refl _ _, ?_, rfl⟩; (show rel.slot _ _ = _; simp only [rel.slot_lit, List.getD_cons_succ, List.getD_cons_zero]; (first | done | exact rfl)))); (simp only [rel.put_lit, List.set_cons_succ, List.set_cons_zero]))
      (apply rel.walk_val; (focus (intro wq hq hf; go_wp2; refine ⟨hq, Below.refl _ _, ?_, rfl⟩; (show rel.slot _ _ = _; simp only [rel.slot_lit, List.getD_cons_succ, List.getD_cons_zero]; (first | done | exact rfl)))); (simp only [rel.put_lit, List.set_cons_succ, List.set_cons_zero]))
      ((apply rel.walk_val; (focus (intro wq hq hf; (have d0 := (hq.cell (p := ⟨g, 2, none⟩) hg2).trans f2); go_wp2; refine ⟨hq, Below.refl _ _, ?_, rfl⟩; (show rel.slot _ _ = _; simp only [rel.slot_lit, List.getD_cons_succ, List.getD_cons_zero]; (first | done | exact rfl)))); (simp only [rel.put_lit, List.set_cons_succ, List.set_cons_zero])))
      (apply rel.walk_val; (focus (intro wq hq hf; go_wp2; refine ⟨hq, Below.refl _ _, ?_, rfl⟩; (show rel.slot _ _ = _; simp only [rel.slot_lit, List.getD_cons_succ, List.getD_cons_zero]; (first | done | exact rfl)))); (simp only [rel.put_lit, List.set_cons_succ, List.set_cons_zero]))
      (apply rel.walk_rel (fun u w' => sch.IsG w' u (GA)) ⟨_, rfl⟩ (fun u w1 w2 h1 h2 => h2.on h1); (focus (intro wq hq hf; go_wp2_with (go_at_call 48; with_reducible refine (hcl _ _ (K.trans (hq.mono K.size)) (hq1.on hq)).mono ?_; rintro e w'' ⟨⟨u, rfl, hu⟩, hb⟩); refine ⟨hq.trans (hb.mono hq.size), hb, ?_, rfl⟩; (show sch.IsG _ (rel.slot _ _) _; simp only [rel.slot_lit, List.getD_cons_succ, List.getD_cons_zero]; exact hu))); (intro u wu _ hu; obtain ⟨pu, t_pu, rfl, -⟩ := hu; (simp only [rel.put_lit, List.set_cons_succ, List.set_cons_zero])))
      (apply rel.walk_val; (focus (intro wq hq hf; go_wp2; refine ⟨hq, Below.refl _ _, ?_, rfl⟩; (show rel.slot _ _ = _; simp only [rel.slot_lit, List.getD_cons_succ, List.getD_cons_zero]; (first | done | exact rfl)))); (simp only [rel.put_lit, List.set_cons_succ, List.set_cons_zero]))
      (apply rel.walk_val; (focus (intro wq hq hf; go_wp2; refine ⟨hq, Below.refl _ _, ?_, rfl⟩; (show rel.slot _ _ = _; simp only [rel.slot_lit, List.getD_cons_succ, List.getD_cons_zero]; (first | done | exact rfl)))); (simp only [rel.put_lit, List.set_cons_succ, List.set_cons_zero]))
      (apply rel.walk_val; (focus (intro wq hq hf; go_wp2; refine ⟨hq, Below.refl _ _, ?_, rfl⟩; (show rel.slot _ _ = _; simp only [rel.slot_lit, List.getD_cons_succ, List.getD_cons_zero]; (first | done | exact rfl)))); (simp only [rel.put_lit, List.set_cons_succ, List.set_cons_zero]))
      ((apply rel.walk_val; (focus (intro wq hq hf; (have d0 := (hq.cell (p := ⟨g, 3, none⟩) hg2).trans f3); go_wp2; refine ⟨hq, Below.refl _ _, ?_, rfl⟩; (show rel.slot _ _ = _; simp only [rel.slot_lit, List.getD_cons_succ, List.getD_cons_zero]; (first | done | exact rfl)))); (simp only [rel.put_lit, List.set_cons_succ, List.set_cons_zero])))
      (apply rel.walk_val; (focus (intro wq hq hf; go_wp2; refine ⟨hq, Below.refl _ _, ?_, rfl⟩; (show rel.slot _ _ = _; simp only [rel.slot_lit, List.getD_cons_succ, List.getD_cons_zero]; (first | done | exact rfl)))); (simp only [rel.put_lit, List.set_cons_succ, List.set_cons_zero]))
      (apply rel.walk_rel (fun u w' => sch.IsG w' u (GB)) ⟨_, rfl⟩ (fun u w1 w2 h1 h2 => h2.on h1); (focus (intro wq hq hf; go_wp2_with (go_at_call 48; with_reducible refine (hcr _ _ (K.trans (hq.mono K.size)) (hr1.on hq)).mono ?_; rintro e w'' ⟨⟨u, rfl, hu⟩, hb⟩); refine ⟨hq.trans (hb.mono hq.size), hb, ?_, rfl⟩; (show sch.IsG _ (rel.slot _ _) _; simp only [rel.slot_lit, List.getD_cons_succ, List.getD_cons_zero]; exact hu))); (intro u wu _ hu; obtain ⟨pt, t_pt, rfl, -⟩ := hu; (simp only [rel.put_lit, List.set_cons_succ, List.set_cons_zero])))
      (apply rel.walk_rel (fun u w' => sch.IsG w' u (GT)) ⟨_, rfl⟩ (fun u w1 w2 h1 h2 => h2.on h1); (focus (intro wq hq hf; go_wp2_with (go_at_call 59; with_reducible refine (hli _ _ _ (K.trans (hq.mono K.size)) (hf.get 1 rfl rfl) (hf.get 0 rfl rfl)).mono ?_; rintro e w'' ⟨⟨u, rfl, hu⟩, hb⟩); refine ⟨hq.trans (hb.mono hq.size), hb, ?_, rfl⟩; (show sch.IsG _ (rel.slot _ _) _; simp only [rel.slot_lit, List.getD_cons_succ, List.getD_cons_zero]; exact hu))); (intro u wu _ hu; obtain ⟨pz, t_pz, rfl, -⟩ := hu; (simp only [rel.put_lit, List.set_cons_succ, List.set_cons_zero])))
      refine rel.walk_nil ?_
      intro w9 K9 hF
      have hu : IsG w9 (.pointer pz) GT := hF _ (List.mem_cons_self ..)
      clear hF
      simp only [List.drop_succ_cons, List.drop_zero]
      go_wp2
      go_ret
      exact ⟨⟨_, rfl, hu⟩, K.trans (K9.mono K.size)⟩

set_option maxHeartbeats 8000000 in
theorem chosen_any {f : Bool} : ∀ (t : Tr) (p q : Option Addr) (L : List Int) (w : World), Nod w.heap.size w t p → Wb t → Asc (keys t) → IsG w (.pointer q) (Good L) → Asc L → siz t + L.length < 576460752303423400 →
    Calls Try.prog 49 #[.pointer p, .pointer q, .bool f] w fun e w' => (∃ u, e = .returned u ∧ IsG w' u (Good (cho f (keys t) L))) ∧ Below w.heap.size w w' := by
  intro t
  induction t with
  | nil =>
    rintro p q L w hn - - hL aL -
    obtain rfl : p = none := hn
    have h0 : ∀ w, IsG w (.pointer none) (Good (cho f (keys .nil) L)) := fun w => ⟨none, .nil, rfl, rfl, Good.nil⟩
    rcases L with _ | ⟨z, tl⟩
    · obtain rfl := good_nil hL
      cases f
      all_goals
        go_enter Try.func49, Try.ntmps49
        go_wp2_with fail
        go_ret
        exact ⟨⟨_, rfl, h0 _⟩, Below.refl _ _⟩
    · obtain ⟨h, rfl⟩ := good_cons hL
      cases f
      all_goals
        go_enter Try.func49, Try.ntmps49
        go_wp2_with fail
        go_ret
        exact ⟨⟨_, rfl, h0 _⟩, Below.refl _ _⟩
  | node y m l r ihl ihr =>
    rintro p q L w hn hi ha hL aL hs
    rcases L with _ | ⟨z, tl⟩
    · obtain rfl := good_nil hL
      have hd := hn.t.g (G := Good (keys (.node y m l r))) ⟨hi, rfl⟩
      have h0 : ∀ w, IsG w (.pointer none) (Good []) := fun w => ⟨none, .nil, rfl, rfl, Good.nil⟩
      have e1 : cho true (keys (.node y m l r)) [] = [] := by unfold cho; rw [List.filter_eq_nil_iff]; simp
      have e2 : cho false (keys (.node y m l r)) [] = keys (.node y m l r) := by unfold cho; rw [List.filter_eq_self]; simp
      obtain ⟨g, c, d, rfl, hg, -⟩ := hn
      clear ihl ihr ha hL aL hs hi
      cases f
      · rw [e2]
        clear e1 e2 h0
        go_enter Try.func49, Try.ntmps49
        go_wp2_with fail
        go_ret
        exact ⟨⟨_, rfl, hd⟩, Below.refl _ _⟩
      · rw [e1]
        clear e1 e2 hd
        go_enter Try.func49, Try.ntmps49
        go_wp2_with fail
        go_ret
        exact ⟨⟨_, rfl, h0 _⟩, Below.refl _ _⟩
    · obtain ⟨h, rfl⟩ := good_cons hL
      generalize z :: tl = L at *
      obtain ⟨g, c, d, rfl, hg, hv, hl, hr⟩ := hn
      obtain ⟨-, k1, k2, il, ir⟩ := hi
      have g0 := hv.cell 0
      have g2 := hv.cell 2
      have g3 := hv.cell 3
      simp only [List.getElem?_cons_zero, List.getElem?_cons_succ] at g0 g2 g3
      rw [siz_node] at hs
      simp only [keys] at ha ⊢
      obtain ⟨hal, har, h3, h4⟩ := asc_node.1 ha
      have hcn := cho_node (f := f) (K := L) ha
      have l1 := lo_hi_le y L
      have l2 := cho_le f (keys l) (lo y L)
      have l3 := cho_le f (keys r) (hi y L)
      have sl : siz l = (keys l).length := rfl
      have sr : siz r = (keys r).length := rfl
      have hsp : ∀ W (hW : Below w.heap.size w W), Calls Try.prog 47 #[.pointer (some ⟨h, 0, none⟩), .int .i64 y] W fun e w' => (∃ u, e = .returned u ∧ IsS w' u (lo y L) (decide (y ∈ L)) (hi y L)) ∧ Below W.heap.size W w' := by
        intro W hW
        obtain ⟨_, t, he, hn, gt⟩ := hL
        cases he
        have h1 := gt.siz
        obtain ⟨it, hk⟩ := gt
        have := split_any (x := y) t _ W _ rfl (hn.grow hW hW.size) it (by rw [hk]; exact aL) (by rw [h1]; omega)
        rw [hk] at this
        exact this
      have hcl := fun W u (hW : Below w.heap.size w W) (hu : IsG W (.pointer u) (Good (lo y L))) => ihl c u (lo y L) W (hl.grow hW hW.size) il hal hu (lo_asc y aL) (by omega)
      have hcr := fun W u (hW : Below w.heap.size w W) (hu : IsG W (.pointer u) (Good (hi y L))) => ihr d u (hi y L) W (hr.grow hW hW.size) ir har hu (hi_asc y aL) (by omega)
      generalize decide (y ∈ L) = b at *
      by_cases hb : b = f
      · rw [if_pos hb] at hcn
        have hli := fun W u v (hu : IsG W (.pointer u) (Good (cho f (keys l) (lo y L)))) (hv : IsG W (.pointer v) (Good (cho f (keys r) (hi y L)))) => link_good (x := y) (w := W) hu hv hcn.symm (by omega)
        subst hb
        generalize Good (cho b (keys l) (lo y L)) = GA at *
        generalize Good (cho b (keys r) (hi y L)) = GB at *
        generalize Good (cho b (keys l ++ y :: keys r) L) = GT at *
        generalize lo y L = L1 at *
        generalize hi y L = L2 at *
        have K := Below.refl w.heap.size w
        clear ihl ihr hv hl hr k1 k2 il ir ha hs hal har hcn l1 l2 l3 sl sr hL aL h3 h4
        have hbb : (b == b) = true := by simp
        go_enter Try.func49, Try.ntmps49
        go_wp2_with (go_at_call 47; (with_reducible refine (hsp _ K).mono ?_); clear hsp; rintro e w1 ⟨⟨u, rfl, hu⟩, hb1⟩; replace K := K.trans (hb1.mono K.size); clear hb1; (obtain ⟨q1, r1, rfl, hq1, hr1⟩ := hu); have f0 := (K.cell (p := ⟨g, 0, none⟩) hg).trans g0; have f2 := (K.cell (p := ⟨g, 2, none⟩) hg).trans g2; have f3 := (K.cell (p := ⟨g, 3, none⟩) hg).trans g3; have hg2 := Nat.lt_of_lt_of_le hg K.size)
        apply rel.region (C := fun w' => Below w1.heap.size w1 w') (X := fun w w' => Below w.heap.size w w') (by kernel_rfl) (by kernel_rfl) (by kernel_rfl) ((Below.refl _ _).drew)
        (apply rel.walk_val; (focus (intro wq hq hf; go_wp2; refine ⟨hq, Below.refl _ _, ?_, rfl⟩; (show rel.slot _ _ = _; simp only [rel.slot_lit, List.getD_cons_succ, List.getD_cons_zero]; (first | done | exact rfl)))); (simp only [rel.put_lit, List.set_cons_succ, List.set_cons_zero]))
        (apply rel.walk_val; (focus (intro wq hq hf; go_wp2; refine ⟨hq, Below.refl _ _, ?_, rfl⟩; (show rel.slot _ _ = _; simp only [rel.slot_lit, List.getD_cons_succ, List.getD_cons_zero]; (first | done | exact rfl)))); (simp only [rel.put_lit, List.set_cons_succ, List.set_cons_zero]))
        (apply rel.walk_val; (focus (intro wq hq hf; go_wp2; refine ⟨hq, Below.refl _ _, ?_, rfl⟩; (show rel.slot _ _ = _; simp only [rel.slot_lit, List.getD_cons_succ, List.getD_cons_zero]; (first | done | exact rfl)))); (simp only [rel.put_lit, List.set_cons_succ, List.set_cons_zero]))
        ((apply rel.walk_val; (focus (intro wq hq hf; (have d0 := (hq.cell (p := ⟨g, 2, none⟩) hg2).trans f2); go_wp2; refine ⟨hq, Below.refl _ _, ?_, rfl⟩; (show rel.slot _ _ = _; simp only [rel.slot_lit, List.getD_cons_succ, List.getD_cons_zero]; (first | done | exact rfl)))); (simp only [rel.put_lit, List.set_cons_succ, List.set_cons_zero])))
        (apply rel.walk_val; (focus (intro wq hq hf; go_wp2; refine ⟨hq, Below.refl _ _, ?_, rfl⟩; (show rel.slot _ _ = _; simp only [rel.slot_lit, List.getD_cons_succ, List.getD_cons_zero]; (first | done | exact rfl)))); (simp only [rel.put_lit, List.set_cons_succ, List.set_cons_zero]))
        (apply rel.walk_val; (focus (intro wq hq hf; go_wp2; refine ⟨hq, Below.refl _ _, ?_, rfl⟩; (show rel.slot _ _ = _; simp only [rel.slot_lit, List.getD_cons_succ, List.getD_cons_zero]; (first | done | exact rfl)))); (simp only [rel.put_lit, List.set_cons_succ, List.set_cons_zero]))
        (apply rel.walk_rel (fun u w' => sch.IsG w' u (GA)) ⟨_, rfl⟩ (fun u w1 w2 h1 h2 => h2.on h1); (focus (intro wq hq hf; go_wp2_with (go_at_call 49; with_reducible refine (hcl _ _ (K.trans (hq.mono K.size)) (hq1.on hq)).mono ?_; rintro e w'' ⟨⟨u, rfl, hu⟩, hb⟩); refine ⟨hq.trans (hb.mono hq.size), hb, ?_, rfl⟩; (show sch.IsG _ (rel.slot _ _) _; simp only [rel.slot_lit, List.getD_cons_succ, List.getD_cons_zero]; exact hu))); (intro u wu _ hu; obtain ⟨pu, t_pu, rfl, -⟩ := hu; (simp only [rel.put_lit, List.set_cons_succ, List.set_cons_zero])))
        (apply rel.walk_val; (focus (intro wq hq hf; go_wp2; refine ⟨hq, Below.refl _ _, ?_, rfl⟩; (show rel.slot _ _ = _; simp only [rel.slot_lit, List.getD_cons_succ, List.getD_cons_zero]; (first | done | exact rfl)))); (simp only [rel.put_lit, List.set_cons_succ, List.set_cons_zero]))
        (apply rel.walk_val; (focus (intro wq hq hf; go_wp2; refine ⟨hq, Below.refl _ _, ?_, rfl⟩; (show rel.slot _ _ = _; simp only [rel.slot_lit, List.getD_cons_succ, List.getD_cons_zero]; (first | done | exact rfl)))); (simp only [rel.put_lit, List.set_cons_succ, List.set_cons_zero]))
        (apply rel.walk_val; (focus (intro wq hq hf; go_wp2; refine ⟨hq, Below.refl _ _, ?_, rfl⟩; (show rel.slot _ _ = _; simp only [rel.slot_lit, List.getD_cons_succ, List.getD_cons_zero]; (first | done | exact rfl)))); (simp only [rel.put_lit, List.set_cons_succ, List.set_cons_zero]))
        ((apply rel.walk_val; (focus (intro wq hq hf; (have d0 := (hq.cell (p := ⟨g, 3, none⟩) hg2).trans f3); go_wp2; refine ⟨hq, Below.refl _ _, ?_, rfl⟩; (show rel.slot _ _ = _; simp only [rel.slot_lit, List.getD_cons_succ, List.getD_cons_zero]; (first | done | exact rfl)))); (simp only [rel.put_lit, List.set_cons_succ, List.set_cons_zero])))
        (apply rel.walk_val; (focus (intro wq hq hf; go_wp2; refine ⟨hq, Below.refl _ _, ?_, rfl⟩; (show rel.slot _ _ = _; simp only [rel.slot_lit, List.getD_cons_succ, List.getD_cons_zero]; (first | done | exact rfl)))); (simp only [rel.put_lit, List.set_cons_succ, List.set_cons_zero]))
        (apply rel.walk_val; (focus (intro wq hq hf; go_wp2; refine ⟨hq, Below.refl _ _, ?_, rfl⟩; (show rel.slot _ _ = _; simp only [rel.slot_lit, List.getD_cons_succ, List.getD_cons_zero]; (first | done | exact rfl)))); (simp only [rel.put_lit, List.set_cons_succ, List.set_cons_zero]))
        (apply rel.walk_rel (fun u w' => sch.IsG w' u (GB)) ⟨_, rfl⟩ (fun u w1 w2 h1 h2 => h2.on h1); (focus (intro wq hq hf; go_wp2_with (go_at_call 49; with_reducible refine (hcr _ _ (K.trans (hq.mono K.size)) (hr1.on hq)).mono ?_; rintro e w'' ⟨⟨u, rfl, hu⟩, hb⟩); refine ⟨hq.trans (hb.mono hq.size), hb, ?_, rfl⟩; (show sch.IsG _ (rel.slot _ _) _; simp only [rel.slot_lit, List.getD_cons_succ, List.getD_cons_zero]; exact hu))); (intro u wu _ hu; obtain ⟨pt, t_pt, rfl, -⟩ := hu; (simp only [rel.put_lit, List.set_cons_succ, List.set_cons_zero])))
        (apply rel.walk_rel (fun u w' => sch.IsG w' u (GA)) ⟨_, rfl⟩ (fun u w1 w2 h1 h2 => h2.on h1); (focus (intro wq hq hf; have h0 := hf.get 1 rfl rfl; go_wp2; refine ⟨hq, Below.refl _ _, ?_, rfl⟩; (show sch.IsG _ (rel.slot _ _) _; simp only [rel.slot_lit, List.getD_cons_succ, List.getD_cons_zero]; exact h0))); (intro u wu _ hu; obtain ⟨px, t_px, rfl, -⟩ := hu; (simp only [rel.put_lit, List.set_cons_succ, List.set_cons_zero])))
        (apply rel.walk_rel (fun u w' => sch.IsG w' u (GB)) ⟨_, rfl⟩ (fun u w1 w2 h1 h2 => h2.on h1); (focus (intro wq hq hf; have h0 := hf.get 1 rfl rfl; go_wp2; refine ⟨hq, Below.refl _ _, ?_, rfl⟩; (show sch.IsG _ (rel.slot _ _) _; simp only [rel.slot_lit, List.getD_cons_succ, List.getD_cons_zero]; exact h0))); (intro u wu _ hu; obtain ⟨py, t_py, rfl, -⟩ := hu; (simp only [rel.put_lit, List.set_cons_succ, List.set_cons_zero])))
        refine rel.walk_nil ?_
        intro w9 K9 hF
        have hy : IsG w9 (.pointer py) GB := rel.fact hF 0 rfl
        have hx : IsG w9 (.pointer px) GA := rel.fact hF 1 rfl
        clear hF hcl hcr hq1 hr1 f0 f2 f3 hg2
        replace K := K.trans (K9.mono K.size)
        have f0 := (K.cell (p := ⟨g, 0, none⟩) hg).trans g0
        have hg2 := Nat.lt_of_lt_of_le hg K.size
        go_wp2_with (go_at_call 59; (with_reducible refine (hli _ _ _ hx hy).mono ?_); clear hli; rintro e w3 ⟨⟨u, rfl, hu⟩, hb1⟩; replace K := K.trans (hb1.mono K.size); clear hb1)
        go_ret
        exact ⟨⟨_, rfl, hu⟩, K⟩
      · rw [if_neg hb] at hcn
        have hli := fun W u v (hu : IsG W (.pointer u) (Good (cho f (keys l) (lo y L)))) (hv : IsG W (.pointer v) (Good (cho f (keys r) (hi y L)))) => concat_good (w := W) hu hv (cho_asc f _ har) hcn.symm (by omega)
        have hbb : (b == f) = false := by simpa using hb
        generalize Good (cho f (keys l) (lo y L)) = GA at *
        generalize Good (cho f (keys r) (hi y L)) = GB at *
        generalize Good (cho f (keys l ++ y :: keys r) L) = GT at *
        generalize lo y L = L1 at *
        generalize hi y L = L2 at *
        have K := Below.refl w.heap.size w
        clear ihl ihr hv hl hr k1 k2 il ir ha hs hal har hcn l1 l2 l3 sl sr hL aL h3 h4 hb
        go_enter Try.func49, Try.ntmps49
        go_wp2_with (go_at_call 47; (with_reducible refine (hsp _ K).mono ?_); clear hsp; rintro e w1 ⟨⟨u, rfl, hu⟩, hb1⟩; replace K := K.trans (hb1.mono K.size); clear hb1; (obtain ⟨q1, r1, rfl, hq1, hr1⟩ := hu); have f0 := (K.cell (p := ⟨g, 0, none⟩) hg).trans g0; have f2 := (K.cell (p := ⟨g, 2, none⟩) hg).trans g2; have f3 := (K.cell (p := ⟨g, 3, none⟩) hg).trans g3; have hg2 := Nat.lt_of_lt_of_le hg K.size)
        apply rel.region (C := fun w' => Below w1.heap.size w1 w') (X := fun w w' => Below w.heap.size w w') (by kernel_rfl) (by kernel_rfl) (by kernel_rfl) ((Below.refl _ _).drew)
        (apply rel.walk_val; (focus (intro wq hq hf; go_wp2; refine ⟨hq, Below.refl _ _, ?_, rfl⟩; (show rel.slot _ _ = _; simp only [rel.slot_lit, List.getD_cons_succ, List.getD_cons_zero]; (first | done | exact rfl)))); (simp only [rel.put_lit, List.set_cons_succ, List.set_cons_zero]))
        (apply rel.walk_val; (focus (intro wq hq hf; go_wp2; refine ⟨hq, Below.refl _ _, ?_, rfl⟩; (show rel.slot _ _ = _; simp only [rel.slot_lit, List.getD_cons_succ, List.getD_cons_zero]; (first | done | exact rfl)))); (simp only [rel.put_lit, List.set_cons_succ, List.set_cons_zero]))
        (apply rel.walk_val; (focus (intro wq hq hf; go_wp2; refine ⟨hq, Below.refl _ _, ?_, rfl⟩; (show rel.slot _ _ = _; simp only [rel.slot_lit, List.getD_cons_succ, List.getD_cons_zero]; (first | done | exact rfl)))); (simp only [rel.put_lit, List.set_cons_succ, List.set_cons_zero]))
        ((apply rel.walk_val; (focus (intro wq hq hf; (have d0 := (hq.cell (p := ⟨g, 2, none⟩) hg2).trans f2); go_wp2; refine ⟨hq, Below.refl _ _, ?_, rfl⟩; (show rel.slot _ _ = _; simp only [rel.slot_lit, List.getD_cons_succ, List.getD_cons_zero]; (first | done | exact rfl)))); (simp only [rel.put_lit, List.set_cons_succ, List.set_cons_zero])))
        (apply rel.walk_val; (focus (intro wq hq hf; go_wp2; refine ⟨hq, Below.refl _ _, ?_, rfl⟩; (show rel.slot _ _ = _; simp only [rel.slot_lit, List.getD_cons_succ, List.getD_cons_zero]; (first | done | exact rfl)))); (simp only [rel.put_lit, List.set_cons_succ, List.set_cons_zero]))
        (apply rel.walk_val; (focus (intro wq hq hf; go_wp2; refine ⟨hq, Below.refl _ _, ?_, rfl⟩; (show rel.slot _ _ = _; simp only [rel.slot_lit, List.getD_cons_succ, List.getD_cons_zero]; (first | done | exact rfl)))); (simp only [rel.put_lit, List.set_cons_succ, List.set_cons_zero]))
        (apply rel.walk_rel (fun u w' => sch.IsG w' u (GA)) ⟨_, rfl⟩ (fun u w1 w2 h1 h2 => h2.on h1); (focus (intro wq hq hf; go_wp2_with (go_at_call 49; with_reducible refine (hcl _ _ (K.trans (hq.mono K.size)) (hq1.on hq)).mono ?_; rintro e w'' ⟨⟨u, rfl, hu⟩, hb⟩); refine ⟨hq.trans (hb.mono hq.size), hb, ?_, rfl⟩; (show sch.IsG _ (rel.slot _ _) _; simp only [rel.slot_lit, List.getD_cons_succ, List.getD_cons_zero]; exact hu))); (intro u wu _ hu; obtain ⟨pu, t_pu, rfl, -⟩ := hu; (simp only [rel.put_lit, List.set_cons_succ, List.set_cons_zero])))
        (apply rel.walk_val; (focus (intro wq hq hf; go_wp2; refine ⟨hq, Below.refl _ _, ?_, rfl⟩; (show rel.slot _ _ = _; simp only [rel.slot_lit, List.getD_cons_succ, List.getD_cons_zero]; (first | done | exact rfl)))); (simp only [rel.put_lit, List.set_cons_succ, List.set_cons_zero]))
        (apply rel.walk_val; (focus (intro wq hq hf; go_wp2; refine ⟨hq, Below.refl _ _, ?_, rfl⟩; (show rel.slot _ _ = _; simp only [rel.slot_lit, List.getD_cons_succ, List.getD_cons_zero]; (first | done | exact rfl)))); (simp only [rel.put_lit, List.set_cons_succ, List.set_cons_zero]))
        (apply rel.walk_val; (focus (intro wq hq hf; go_wp2; refine ⟨hq, Below.refl _ _, ?_, rfl⟩; (show rel.slot _ _ = _; simp only [rel.slot_lit, List.getD_cons_succ, List.getD_cons_zero]; (first | done | exact rfl)))); (simp only [rel.put_lit, List.set_cons_succ, List.set_cons_zero]))
        ((apply rel.walk_val; (focus (intro wq hq hf; (have d0 := (hq.cell (p := ⟨g, 3, none⟩) hg2).trans f3); go_wp2; refine ⟨hq, Below.refl _ _, ?_, rfl⟩; (show rel.slot _ _ = _; simp only [rel.slot_lit, List.getD_cons_succ, List.getD_cons_zero]; (first | done | exact rfl)))); (simp only [rel.put_lit, List.set_cons_succ, List.set_cons_zero])))
        (apply rel.walk_val; (focus (intro wq hq hf; go_wp2; refine ⟨hq, Below.refl _ _, ?_, rfl⟩; (show rel.slot _ _ = _; simp only [rel.slot_lit, List.getD_cons_succ, List.getD_cons_zero]; (first | done | exact rfl)))); (simp only [rel.put_lit, List.set_cons_succ, List.set_cons_zero]))
        (apply rel.walk_val; (focus (intro wq hq hf; go_wp2; refine ⟨hq, Below.refl _ _, ?_, rfl⟩; (show rel.slot _ _ = _; simp only [rel.slot_lit, List.getD_cons_succ, List.getD_cons_zero]; (first | done | exact rfl)))); (simp only [rel.put_lit, List.set_cons_succ, List.set_cons_zero]))
        (apply rel.walk_rel (fun u w' => sch.IsG w' u (GB)) ⟨_, rfl⟩ (fun u w1 w2 h1 h2 => h2.on h1); (focus (intro wq hq hf; go_wp2_with (go_at_call 49; with_reducible refine (hcr _ _ (K.trans (hq.mono K.size)) (hr1.on hq)).mono ?_; rintro e w'' ⟨⟨u, rfl, hu⟩, hb⟩); refine ⟨hq.trans (hb.mono hq.size), hb, ?_, rfl⟩; (show sch.IsG _ (rel.slot _ _) _; simp only [rel.slot_lit, List.getD_cons_succ, List.getD_cons_zero]; exact hu))); (intro u wu _ hu; obtain ⟨pt, t_pt, rfl, -⟩ := hu; (simp only [rel.put_lit, List.set_cons_succ, List.set_cons_zero])))
        (apply rel.walk_rel (fun u w' => sch.IsG w' u (GA)) ⟨_, rfl⟩ (fun u w1 w2 h1 h2 => h2.on h1); (focus (intro wq hq hf; have h0 := hf.get 1 rfl rfl; go_wp2; refine ⟨hq, Below.refl _ _, ?_, rfl⟩; (show sch.IsG _ (rel.slot _ _) _; simp only [rel.slot_lit, List.getD_cons_succ, List.getD_cons_zero]; exact h0))); (intro u wu _ hu; obtain ⟨px, t_px, rfl, -⟩ := hu; (simp only [rel.put_lit, List.set_cons_succ, List.set_cons_zero])))
        (apply rel.walk_rel (fun u w' => sch.IsG w' u (GB)) ⟨_, rfl⟩ (fun u w1 w2 h1 h2 => h2.on h1); (focus (intro wq hq hf; have h0 := hf.get 1 rfl rfl; go_wp2; refine ⟨hq, Below.refl _ _, ?_, rfl⟩; (show sch.IsG _ (rel.slot _ _) _; simp only [rel.slot_lit, List.getD_cons_succ, List.getD_cons_zero]; exact h0))); (intro u wu _ hu; obtain ⟨py, t_py, rfl, -⟩ := hu; (simp only [rel.put_lit, List.set_cons_succ, List.set_cons_zero])))
        refine rel.walk_nil ?_
        intro w9 K9 hF
        have hy : IsG w9 (.pointer py) GB := rel.fact hF 0 rfl
        have hx : IsG w9 (.pointer px) GA := rel.fact hF 1 rfl
        clear hF hcl hcr hq1 hr1 f0 f2 f3 hg2
        replace K := K.trans (K9.mono K.size)
        go_wp2_with (go_at_call 50; (with_reducible refine (hli _ _ _ hx hy).mono ?_); clear hli; rintro e w3 ⟨⟨u, rfl, hu⟩, hb1⟩; replace K := K.trans (hb1.mono K.size); clear hb1)
        go_ret
        exact ⟨⟨_, rfl, hu⟩, K⟩
end Go.Proofs.Ytbdmccokdbfkpaa.wbt
