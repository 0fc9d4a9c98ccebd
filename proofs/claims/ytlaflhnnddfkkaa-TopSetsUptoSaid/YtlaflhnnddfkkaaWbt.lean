/- Package wbt: size, weight, a number over two trees, balanced. -/
import Derived.Test.YtlaflhnnddfkkaaWbtTr
namespace Go.Proofs.Ytlaflhnnddfkkaa.wbt
open Go Go.RowKit
open Go.Proofs.Ytlaflhnnddfkkaa.sch

set_option maxHeartbeats 4000000 in
theorem size_any {t : Tr} {p : Option Addr} {w : World} (h : Nod w.heap.size w t p) (hi : Wb t) :
    Calls Try.prog 93 #[.pointer p] w fun e w' => e = .returned (.int .i64 (siz t : Int)) ∧ w = w' := by
  rcases t with _ | ⟨x, m, l, r⟩
  · obtain rfl : p = none := h
    go_enter Try.func93, Try.ntmps93
    go_wp2_with fail
    go_ret
    exact ⟨rfl, rfl⟩
  · obtain ⟨g, c, d, rfl, hg, hk, -, -⟩ := h
    have c1 := hk.cell 1
    simp only [List.getElem?_cons_zero, List.getElem?_cons_succ] at c1
    rw [hi.1, ← siz_node x m l r] at c1
    generalize (siz (.node x m l r) : Int) = K at *
    clear hi hk
    go_enter Try.func93, Try.ntmps93
    go_wp2_with fail
    go_ret
    exact ⟨rfl, rfl⟩

set_option maxHeartbeats 4000000 in
theorem weight_any {t : Tr} {p : Option Addr} {w : World} (h : Nod w.heap.size w t p) (hi : Wb t) (hs : siz t < 1152921504606846976) :
    Calls Try.prog 92 #[.pointer p] w fun e w' => e = .returned (.int .i64 (wt t : Int)) ∧ w = w' := by
  have hc := size_any h hi
  obtain ⟨n, hn⟩ : ∃ n, siz t = n := ⟨_, rfl⟩
  rw [show (wt t : Int) = (n : Int) + 1 by unfold wt; omega]
  rw [hn] at hc hs
  clear h hi hn
  go_enter Try.func92, Try.ntmps92
  go_wp2_with (go_at_call 93; (with_reducible refine hc.mono ?_); clear hc; rintro e w1 ⟨rfl, rfl⟩)
  go_ret
  exact ⟨rfl, rfl⟩

set_option maxHeartbeats 4000000 in
theorem tooHeavy_any {a b : Tr} {p q : Option Addr} {w : World} {B : Bool} (ha : Nod w.heap.size w a p) (hb : Nod w.heap.size w b q) (ia : Wb a) (ib : Wb b) (hs : siz a < 1152921504606846976) (hs' : siz b < 1152921504606846976) (hB : B = decide (3 * wt b < wt a)) :
    Calls Try.prog 76 #[.pointer p, .pointer q] w fun e w' => e = .returned (.bool B) ∧ w = w' := by
  have h1 := weight_any ha ia hs
  have h2 := weight_any hb ib hs'
  have k1 : wt a < 1152921504606846977 := by unfold wt; omega
  have k2 : wt b < 1152921504606846977 := by unfold wt; omega
  generalize wt a = m at *
  generalize wt b = n at *
  have hB2 : decide (3 * (n : Int) < (m : Int)) = B := by rw [hB]; exact decide_eq_decide.2 (by omega)
  clear ha hb ia ib hs hs' hB
  go_enter Try.func76, Try.ntmps76
  go_wp2_with (first
    | (go_at_call 92; (with_reducible refine h1.mono ?_); clear h1; rintro e w1 ⟨rfl, rfl⟩)
    | (go_at_call 92; (with_reducible refine h2.mono ?_); clear h2; rintro e w1 ⟨rfl, rfl⟩))
  go_ret
  exact ⟨rfl, rfl⟩

set_option maxHeartbeats 4000000 in
theorem divides_any {a b : Tr} {p q : Option Addr} {w : World} {B : Bool} (ha : Nod w.heap.size w a p) (hb : Nod w.heap.size w b q) (ia : Wb a) (ib : Wb b) (hs : siz a < 1152921504606846976) (hs' : siz b < 1152921504606846976) (hB : B = decide (2 * wt b ≤ wt a)) :
    Calls Try.prog 77 #[.pointer p, .pointer q] w fun e w' => e = .returned (.bool B) ∧ w = w' := by
  have h1 := weight_any ha ia hs
  have h2 := weight_any hb ib hs'
  have k1 : wt a < 1152921504606846977 := by unfold wt; omega
  have k2 : wt b < 1152921504606846977 := by unfold wt; omega
  generalize wt a = m at *
  generalize wt b = n at *
  have hB2 : decide (2 * (n : Int) ≤ (m : Int)) = B := by rw [hB]; exact decide_eq_decide.2 (by omega)
  clear ha hb ia ib hs hs' hB
  go_enter Try.func77, Try.ntmps77
  go_wp2_with (first
    | (go_at_call 92; (with_reducible refine h1.mono ?_); clear h1; rintro e w1 ⟨rfl, rfl⟩)
    | (go_at_call 92; (with_reducible refine h2.mono ?_); clear h2; rintro e w1 ⟨rfl, rfl⟩))
  go_ret
  exact ⟨rfl, rfl⟩

set_option maxHeartbeats 8000000 in
theorem over_any {x : Int} {a b : Tr} {p q : Option Addr} {w : World} (ha : IsT w (.pointer p) a) (hb : IsT w (.pointer q) b) (ia : Wb a) (ib : Wb b) (hs : siz a + siz b < 1152921504606846976) :
    Calls Try.prog 78 #[.int .i64 x, .pointer p, .pointer q] w fun e w' => (∃ u, e = .returned u ∧ IsT w' u (mkn x a b)) ∧ Below w.heap.size w w' := by
  have hA := size_any ha.nod ia
  have hB := size_any hb.nod ib
  have hdone : Hid (∀ (W : World) (G : Nat) (sp : Int), Below w.heap.size w W → hp.Blk W G tyT [.int .i64 x, .int .i64 sp, .pointer p, .pointer q] → sp = ((siz a + 1 + siz b : Nat) : Int) → IsT W (.pointer (some ⟨G, 0, none⟩)) (mkn x a b)) := by
    rintro W G sp hW hG rfl
    exact ⟨_, rfl, G, p, q, rfl, hG.lt, hG, ha.nod.grow hW hW.size, hb.nod.grow hW hW.size⟩
  obtain ⟨m, hm⟩ : ∃ m, siz a = m := ⟨_, rfl⟩
  obtain ⟨n, hn⟩ : ∃ n, siz b = n := ⟨_, rfl⟩
  rw [hm] at hA hs hdone
  rw [hn] at hB hs hdone
  clear ha hb ia ib hm hn
  go_enter Try.func78, Try.ntmps78
  go_wp2_with (first
    | (go_at_call 93; (with_reducible refine hA.mono ?_); clear hA; rintro e w1 ⟨rfl, rfl⟩)
    | (go_at_call 93; (with_reducible refine hB.mono ?_); clear hB; rintro e w1 ⟨rfl, rfl⟩))
  go_ret
  have hb0 := (Below.refl w.heap.size w).alloc (Nat.le_refl _) (.cells #[.int .i64 x, .int .i64 ((m : Int) + 1 + (n : Int)), .pointer p, .pointer q] tyT)
  exact ⟨⟨_, rfl, hdone.out _ _ _ hb0 (hp.Blk.newAt (cs := [.int .i64 x, .int .i64 ((m : Int) + 1 + (n : Int)), .pointer p, .pointer q]) rfl) (by omega)⟩, hb0⟩

set_option maxHeartbeats 8000000 in
theorem bal_same {x : Int} {a b : Tr} {p q : Option Addr} {w : World} (ha : IsT w (.pointer p) a) (hb : IsT w (.pointer q) b) (ia : Wb a) (ib : Wb b) (h1 : ¬ 3 * wt b < wt a) (h2 : ¬ 3 * wt a < wt b) (hs : siz a + siz b < 1152921504606846976) :
    Calls Try.prog 56 #[.int .i64 x, .pointer p, .pointer q] w fun e w' => (∃ u, e = .returned u ∧ IsG w' u (Good (keys a ++ x :: keys b))) ∧ Below w.heap.size w w' := by
  have t1 := tooHeavy_any (B := false) ha.nod hb.nod ia ib (by omega) (by omega) (decide_eq_false h1).symm
  have t2 := tooHeavy_any (B := false) hb.nod ha.nod ib ia (by omega) (by omega) (decide_eq_false h2).symm
  have o1 := over_any (x := x) ha hb ia ib (by omega)
  have hdone : Hid (∀ W u, IsT W u (mkn x a b) → IsG W u (Good (keys a ++ x :: keys b))) := Lib.hid fun W u h => h.g (good_same ia ib h1 h2)
  clear ha hb ia ib h1 h2 hs
  generalize Good (keys a ++ x :: keys b) = GL at *
  generalize mkn x a b = t at *
  go_enter Try.func56, Try.ntmps56
  go_wp2_with (first
    | (go_at_call 76; (with_reducible refine t1.mono ?_); clear t1; rintro e w1 ⟨rfl, rfl⟩)
    | (go_at_call 76; (with_reducible refine t2.mono ?_); clear t2; rintro e w1 ⟨rfl, rfl⟩)
    | (go_at_call 78; (with_reducible refine o1.mono ?_); clear o1; rintro e w1 ⟨⟨u, rfl, hu⟩, hb1⟩))
  go_ret
  exact ⟨⟨_, rfl, hdone.out _ _ hu⟩, hb1⟩

set_option maxHeartbeats 8000000 in
theorem bal_ls {x y my : Int} {c d b : Tr} {p q : Option Addr} {w : World} (ha : IsT w (.pointer p) (.node y my c d)) (hb : IsT w (.pointer q) b) (ia : Wb (.node y my c d)) (ib : Wb b) (h : 3 * wt b < wt (.node y my c d)) (n : Near (wt b) (wt (.node y my c d))) (hd : ¬ 2 * wt c ≤ wt d) (hs : siz (.node y my c d) + siz b < 1152921504606846976) :
    Calls Try.prog 56 #[.int .i64 x, .pointer p, .pointer q] w fun e w' => (∃ u, e = .returned u ∧ IsG w' u (Good (keys (.node y my c d) ++ x :: keys b))) ∧ Below w.heap.size w w' := by
  have iia := ia
  have hdone : Hid (∀ W u, IsT W u (mkn y c (mkn x d b)) → IsG W u (Good (keys (.node y my c d) ++ x :: keys b))) := Lib.hid fun W u h9 => h9.g (good_ls ia ib h n hd)
  have t1 := tooHeavy_any (B := true) ha.nod hb.nod ia ib (by omega) (by omega) (decide_eq_true h).symm
  have hb0 := hb
  have K := Below.refl w.heap.size w
  obtain ⟨_, he, g, gc, gd, rfl, hg, hgv, hgc, hgd⟩ := ha
  cases he
  have g0 := hgv.cell 0
  have g2 := hgv.cell 2
  have g3 := hgv.cell 3
  simp only [List.getElem?_cons_zero, List.getElem?_cons_succ] at g0 g2 g3
  obtain ⟨-, e1, e2, ic, id⟩ := ia
  rw [siz_node] at hs
  have d1 := divides_any (B := false) hgd hgc id ic (by omega) (by omega) (decide_eq_false hd).symm
  have o1 := fun W (hW : Below w.heap.size w W) => over_any (x := x) (w := W) ⟨_, rfl, hgd.grow hW hW.size⟩ (hb0.on hW) id ib (by omega)
  have o3 := fun W v (hW : Below w.heap.size w W) (hv : IsT W (.pointer v) (mkn x d b)) (i2 : Wb (mkn x d b)) => over_any (x := y) (w := W) ⟨_, rfl, hgc.grow hW hW.size⟩ hv ic i2 (by rw [siz_mkn]; omega)
  have hgood := (good_ls (x := x) iia ib h n hd).1
  replace o3 := fun W v hW hv => o3 W v hW hv hgood.2.2.2.2
  generalize mkn x d b = T1 at *
  generalize Good (keys (.node y my c d) ++ x :: keys b) = GL at *
  clear hb0 hgv hgc hgd hb ib iia hd n h hs ic id e1 e2 hgood
  go_enter Try.func56, Try.ntmps56
  go_wp2_with (first
    | (go_at_call 76; (with_reducible refine t1.mono ?_); clear t1; rintro e w1 ⟨rfl, rfl⟩)
    | (go_at_call 77; (with_reducible refine d1.mono ?_); clear d1; rintro e w1 ⟨rfl, rfl⟩))
  apply rel.region_tail (C := fun w' => Below w.heap.size w w') (X := fun w w' => Below w.heap.size w w') 16 (by kernel_rfl) (by kernel_rfl) (by kernel_rfl) (by kernel_rfl) (K.drew)
  (apply rel.walk_val; (focus (intro wq hq hf; go_wp2; refine ⟨hq, Below.refl _ _, ?_, rfl⟩; (show rel.slot _ _ = _; simp only [rel.slot_lit, List.getD_cons_succ, List.getD_cons_zero]; (first | done | exact rfl)))); (simp only [rel.put_lit, List.set_cons_succ, List.set_cons_zero]))
  (apply rel.walk_val; (focus (intro wq hq hf; go_wp2; refine ⟨hq, Below.refl _ _, ?_, rfl⟩; (show rel.slot _ _ = _; simp only [rel.slot_lit, List.getD_cons_succ, List.getD_cons_zero]; (first | done | exact rfl)))); (simp only [rel.put_lit, List.set_cons_succ, List.set_cons_zero]))
  (apply rel.walk_val; (focus (intro wq hq hf; go_wp2; refine ⟨hq, Below.refl _ _, ?_, rfl⟩; (show rel.slot _ _ = _; simp only [rel.slot_lit, List.getD_cons_succ, List.getD_cons_zero]; (first | done | exact rfl)))); (simp only [rel.put_lit, List.set_cons_succ, List.set_cons_zero]))
  ((apply rel.walk_val; (focus (intro wq hq hf; (have d0 := (hq.cell (p := ⟨g, 0, none⟩) hg).trans g0); go_wp2; refine ⟨hq, Below.refl _ _, ?_, rfl⟩; (show rel.slot _ _ = _; simp only [rel.slot_lit, List.getD_cons_succ, List.getD_cons_zero]; (first | done | exact rfl)))); (simp only [rel.put_lit, List.set_cons_succ, List.set_cons_zero])))
  (apply rel.walk_val; (focus (intro wq hq hf; go_wp2; refine ⟨hq, Below.refl _ _, ?_, rfl⟩; (show rel.slot _ _ = _; simp only [rel.slot_lit, List.getD_cons_succ, List.getD_cons_zero]; (first | done | exact rfl)))); (simp only [rel.put_lit, List.set_cons_succ, List.set_cons_zero]))
  (apply rel.walk_val; (focus (intro wq hq hf; go_wp2; refine ⟨hq, Below.refl _ _, ?_, rfl⟩; (show rel.slot _ _ = _; simp only [rel.slot_lit, List.getD_cons_succ, List.getD_cons_zero]; (first | done | exact rfl)))); (simp only [rel.put_lit, List.set_cons_succ, List.set_cons_zero]))
  (apply rel.walk_val; (focus (intro wq hq hf; go_wp2; refine ⟨hq, Below.refl _ _, ?_, rfl⟩; (show rel.slot _ _ = _; simp only [rel.slot_lit, List.getD_cons_succ, List.getD_cons_zero]; (first | done | exact rfl)))); (simp only [rel.put_lit, List.set_cons_succ, List.set_cons_zero]))
  ((apply rel.walk_val; (focus (intro wq hq hf; (have d0 := (hq.cell (p := ⟨g, 2, none⟩) hg).trans g2); go_wp2; refine ⟨hq, Below.refl _ _, ?_, rfl⟩; (show rel.slot _ _ = _; simp only [rel.slot_lit, List.getD_cons_succ, List.getD_cons_zero]; (first | done | exact rfl)))); (simp only [rel.put_lit, List.set_cons_succ, List.set_cons_zero])))
  (apply rel.walk_val; (focus (intro wq hq hf; go_wp2; refine ⟨hq, Below.refl _ _, ?_, rfl⟩; (show rel.slot _ _ = _; simp only [rel.slot_lit, List.getD_cons_succ, List.getD_cons_zero]; (first | done | exact rfl)))); (simp only [rel.put_lit, List.set_cons_succ, List.set_cons_zero]))
  (apply rel.walk_val; (focus (intro wq hq hf; go_wp2; refine ⟨hq, Below.refl _ _, ?_, rfl⟩; (show rel.slot _ _ = _; simp only [rel.slot_lit, List.getD_cons_succ, List.getD_cons_zero]; (first | done | exact rfl)))); (simp only [rel.put_lit, List.set_cons_succ, List.set_cons_zero]))
  (apply rel.walk_val; (focus (intro wq hq hf; go_wp2; refine ⟨hq, Below.refl _ _, ?_, rfl⟩; (show rel.slot _ _ = _; simp only [rel.slot_lit, List.getD_cons_succ, List.getD_cons_zero]; (first | done | exact rfl)))); (simp only [rel.put_lit, List.set_cons_succ, List.set_cons_zero]))
  (apply rel.walk_val; (focus (intro wq hq hf; go_wp2; refine ⟨hq, Below.refl _ _, ?_, rfl⟩; (show rel.slot _ _ = _; simp only [rel.slot_lit, List.getD_cons_succ, List.getD_cons_zero]; (first | done | exact rfl)))); (simp only [rel.put_lit, List.set_cons_succ, List.set_cons_zero]))
  ((apply rel.walk_val; (focus (intro wq hq hf; (have d0 := (hq.cell (p := ⟨g, 3, none⟩) hg).trans g3); go_wp2; refine ⟨hq, Below.refl _ _, ?_, rfl⟩; (show rel.slot _ _ = _; simp only [rel.slot_lit, List.getD_cons_succ, List.getD_cons_zero]; (first | done | exact rfl)))); (simp only [rel.put_lit, List.set_cons_succ, List.set_cons_zero])))
  (apply rel.walk_val; (focus (intro wq hq hf; go_wp2; refine ⟨hq, Below.refl _ _, ?_, rfl⟩; (show rel.slot _ _ = _; simp only [rel.slot_lit, List.getD_cons_succ, List.getD_cons_zero]; (first | done | exact rfl)))); (simp only [rel.put_lit, List.set_cons_succ, List.set_cons_zero]))
  (apply rel.walk_rel (fun u w' => sch.IsT w' u (T1)) ⟨_, rfl⟩ (fun u w1 w2 h1 h2 => h2.on h1); (focus (intro wq hq hf; go_wp2_with (go_at_call 78; with_reducible refine (o1 _ hq).mono ?_; rintro e w'' ⟨⟨u, rfl, hu⟩, hb⟩); refine ⟨hq.trans (hb.mono hq.size), hb, ?_, rfl⟩; (show sch.IsT _ (rel.slot _ _) _; simp only [rel.slot_lit, List.getD_cons_succ, List.getD_cons_zero]; exact hu))); (intro u wu _ hu; obtain ⟨pu, rfl, -⟩ := hu; (simp only [rel.put_lit, List.set_cons_succ, List.set_cons_zero])))
  (apply rel.walk_rel (fun u w' => sch.IsT w' u (mkn y c T1)) ⟨_, rfl⟩ (fun u w1 w2 h1 h2 => h2.on h1); (focus (intro wq hq hf; go_wp2_with (go_at_call 78; with_reducible refine (o3 _ _ hq (hf.get 0 rfl rfl)).mono ?_; rintro e w'' ⟨⟨u, rfl, hu⟩, hb⟩); refine ⟨hq.trans (hb.mono hq.size), hb, ?_, rfl⟩; (show sch.IsT _ (rel.slot _ _) _; simp only [rel.slot_lit, List.getD_cons_succ, List.getD_cons_zero]; exact hu))); (intro u wu _ hu; obtain ⟨pz, rfl, -⟩ := hu; (simp only [rel.put_lit, List.set_cons_succ, List.set_cons_zero])))
  refine rel.walk_nil ?_
  intro w9 K9 hF
  have hu : IsT w9 (.pointer pz) _ := hF _ (List.mem_cons_self ..)
  clear hF
  simp only [List.drop_succ_cons, List.drop_zero]
  go_wp2
  go_ret
  exact ⟨⟨_, rfl, hdone.out _ _ hu⟩, K9⟩

set_option maxHeartbeats 8000000 in
theorem bal_ld {x y my z mz : Int} {c r s b : Tr} {p q : Option Addr} {w : World} (ha : IsT w (.pointer p) (.node y my c (.node z mz r s))) (hb : IsT w (.pointer q) b) (ia : Wb (.node y my c (.node z mz r s))) (ib : Wb b) (h : 3 * wt b < wt (.node y my c (.node z mz r s))) (n : Near (wt b) (wt (.node y my c (.node z mz r s)))) (hd : 2 * wt c ≤ wt (.node z mz r s)) (hs : siz (.node y my c (.node z mz r s)) + siz b < 1152921504606846976) :
    Calls Try.prog 56 #[.int .i64 x, .pointer p, .pointer q] w fun e w' => (∃ u, e = .returned u ∧ IsG w' u (Good (keys (.node y my c (.node z mz r s)) ++ x :: keys b))) ∧ Below w.heap.size w w' := by
  have iia := ia
  have hdone : Hid (∀ W u, IsT W u (mkn z (mkn y c r) (mkn x s b)) → IsG W u (Good (keys (.node y my c (.node z mz r s)) ++ x :: keys b))) := Lib.hid fun W u h9 => h9.g (good_ld ia ib h n hd)
  have t1 := tooHeavy_any (B := true) ha.nod hb.nod ia ib (by omega) (by omega) (decide_eq_true h).symm
  have hb0 := hb
  have K := Below.refl w.heap.size w
  obtain ⟨_, he, g, gc, gd, rfl, hg, hgv, hgc, hgd⟩ := ha
  cases he
  have g0 := hgv.cell 0
  have g2 := hgv.cell 2
  have g3 := hgv.cell 3
  simp only [List.getElem?_cons_zero, List.getElem?_cons_succ] at g0 g2 g3
  obtain ⟨-, e1, e2, ic, id⟩ := ia
  rw [siz_node] at hs
  rw [siz_node] at hs
  have d1 := divides_any (B := true) hgd hgc id ic (by rw [siz_node]; omega) (by omega) (decide_eq_true hd).symm
  obtain ⟨k, kc, kd, rfl, hk, hv2, nr, ns⟩ := hgd
  have k0 := hv2.cell 0
  have k2 := hv2.cell 2
  have k3 := hv2.cell 3
  simp only [List.getElem?_cons_zero, List.getElem?_cons_succ] at k0 k2 k3
  obtain ⟨-, e3, e4, ir, is⟩ := id
  have o1 := fun W (hW : Below w.heap.size w W) => over_any (x := y) (w := W) ⟨_, rfl, hgc.grow hW hW.size⟩ ⟨_, rfl, nr.grow hW hW.size⟩ ic ir (by omega)
  have o2 := fun W (hW : Below w.heap.size w W) => over_any (x := x) (w := W) ⟨_, rfl, ns.grow hW hW.size⟩ (hb0.on hW) is ib (by omega)
  have o3 := fun W u v (hu : IsT W (.pointer u) (mkn y c r)) (hv : IsT W (.pointer v) (mkn x s b)) (i1 : Wb (mkn y c r)) (i2 : Wb (mkn x s b)) => over_any (x := z) (w := W) hu hv i1 i2 (by rw [siz_mkn, siz_mkn]; omega)
  have hgood := (good_ld (x := x) iia ib h n hd).1
  replace o3 := fun W u v hu hv => o3 W u v hu hv hgood.2.2.2.1 hgood.2.2.2.2
  generalize mkn y c r = T1 at *
  generalize mkn x s b = T2 at *
  have hdd := hdone
  generalize Good (keys (.node y my c (.node z mz r s)) ++ x :: keys b) = GL at *
  clear hb0 hgv hgc hb ib iia hd n h hs ic e1 e2 hgood hv2 nr ns ir is e3 e4
  go_enter Try.func56, Try.ntmps56
  go_wp2_with (first
    | (go_at_call 76; (with_reducible refine t1.mono ?_); clear t1; rintro e w1 ⟨rfl, rfl⟩)
    | (go_at_call 77; (with_reducible refine d1.mono ?_); clear d1; rintro e w1 ⟨rfl, rfl⟩))
  apply rel.region_tail (C := fun w' => Below w.heap.size w w') (X := fun w w' => Below w.heap.size w w') 25 (by kernel_rfl) (by kernel_rfl) (by kernel_rfl) (by kernel_rfl) (K.drew)
  (apply rel.walk_val; (focus (intro wq hq hf; go_wp2; refine ⟨hq, Below.refl _ _, ?_, rfl⟩; (show rel.slot _ _ = _; simp only [rel.slot_lit, List.getD_cons_succ, List.getD_cons_zero]; (first | done | exact rfl)))); (simp only [rel.put_lit, List.set_cons_succ, List.set_cons_zero]))
  (apply rel.walk_val; (focus (intro wq hq hf; go_wp2; refine ⟨hq, Below.refl _ _, ?_, rfl⟩; (show rel.slot _ _ = _; simp only [rel.slot_lit, List.getD_cons_succ, List.getD_cons_zero]; (first | done | exact rfl)))); (simp only [rel.put_lit, List.set_cons_succ, List.set_cons_zero]))
  (apply rel.walk_val; (focus (intro wq hq hf; go_wp2; refine ⟨hq, Below.refl _ _, ?_, rfl⟩; (show rel.slot _ _ = _; simp only [rel.slot_lit, List.getD_cons_succ, List.getD_cons_zero]; (first | done | exact rfl)))); (simp only [rel.put_lit, List.set_cons_succ, List.set_cons_zero]))
  ((apply rel.walk_val; (focus (intro wq hq hf; (have d0 := (hq.cell (p := ⟨k, 0, none⟩) hk).trans k0); go_wp2; refine ⟨hq, Below.refl _ _, ?_, rfl⟩; (show rel.slot _ _ = _; simp only [rel.slot_lit, List.getD_cons_succ, List.getD_cons_zero]; (first | done | exact rfl)))); (simp only [rel.put_lit, List.set_cons_succ, List.set_cons_zero])))
  (apply rel.walk_val; (focus (intro wq hq hf; go_wp2; refine ⟨hq, Below.refl _ _, ?_, rfl⟩; (show rel.slot _ _ = _; simp only [rel.slot_lit, List.getD_cons_succ, List.getD_cons_zero]; (first | done | exact rfl)))); (simp only [rel.put_lit, List.set_cons_succ, List.set_cons_zero]))
  (apply rel.walk_val; (focus (intro wq hq hf; go_wp2; refine ⟨hq, Below.refl _ _, ?_, rfl⟩; (show rel.slot _ _ = _; simp only [rel.slot_lit, List.getD_cons_succ, List.getD_cons_zero]; (first | done | exact rfl)))); (simp only [rel.put_lit, List.set_cons_succ, List.set_cons_zero]))
  (apply rel.walk_val; (focus (intro wq hq hf; go_wp2; refine ⟨hq, Below.refl _ _, ?_, rfl⟩; (show rel.slot _ _ = _; simp only [rel.slot_lit, List.getD_cons_succ, List.getD_cons_zero]; (first | done | exact rfl)))); (simp only [rel.put_lit, List.set_cons_succ, List.set_cons_zero]))
  ((apply rel.walk_val; (focus (intro wq hq hf; (have d0 := (hq.cell (p := ⟨g, 0, none⟩) hg).trans g0); go_wp2; refine ⟨hq, Below.refl _ _, ?_, rfl⟩; (show rel.slot _ _ = _; simp only [rel.slot_lit, List.getD_cons_succ, List.getD_cons_zero]; (first | done | exact rfl)))); (simp only [rel.put_lit, List.set_cons_succ, List.set_cons_zero])))
  (apply rel.walk_val; (focus (intro wq hq hf; go_wp2; refine ⟨hq, Below.refl _ _, ?_, rfl⟩; (show rel.slot _ _ = _; simp only [rel.slot_lit, List.getD_cons_succ, List.getD_cons_zero]; (first | done | exact rfl)))); (simp only [rel.put_lit, List.set_cons_succ, List.set_cons_zero]))
  (apply rel.walk_val; (focus (intro wq hq hf; go_wp2; refine ⟨hq, Below.refl _ _, ?_, rfl⟩; (show rel.slot _ _ = _; simp only [rel.slot_lit, List.getD_cons_succ, List.getD_cons_zero]; (first | done | exact rfl)))); (simp only [rel.put_lit, List.set_cons_succ, List.set_cons_zero]))
  (apply rel.walk_val; (focus (intro wq hq hf; go_wp2; refine ⟨hq, Below.refl _ _, ?_, rfl⟩; (show rel.slot _ _ = _; simp only [rel.slot_lit, List.getD_cons_succ, List.getD_cons_zero]; (first | done | exact rfl)))); (simp only [rel.put_lit, List.set_cons_succ, List.set_cons_zero]))
  ((apply rel.walk_val; (focus (intro wq hq hf; (have d0 := (hq.cell (p := ⟨g, 2, none⟩) hg).trans g2); go_wp2; refine ⟨hq, Below.refl _ _, ?_, rfl⟩; (show rel.slot _ _ = _; simp only [rel.slot_lit, List.getD_cons_succ, List.getD_cons_zero]; (first | done | exact rfl)))); (simp only [rel.put_lit, List.set_cons_succ, List.set_cons_zero])))
  (apply rel.walk_val; (focus (intro wq hq hf; go_wp2; refine ⟨hq, Below.refl _ _, ?_, rfl⟩; (show rel.slot _ _ = _; simp only [rel.slot_lit, List.getD_cons_succ, List.getD_cons_zero]; (first | done | exact rfl)))); (simp only [rel.put_lit, List.set_cons_succ, List.set_cons_zero]))
  (apply rel.walk_val; (focus (intro wq hq hf; go_wp2; refine ⟨hq, Below.refl _ _, ?_, rfl⟩; (show rel.slot _ _ = _; simp only [rel.slot_lit, List.getD_cons_succ, List.getD_cons_zero]; (first | done | exact rfl)))); (simp only [rel.put_lit, List.set_cons_succ, List.set_cons_zero]))
  (apply rel.walk_val; (focus (intro wq hq hf; go_wp2; refine ⟨hq, Below.refl _ _, ?_, rfl⟩; (show rel.slot _ _ = _; simp only [rel.slot_lit, List.getD_cons_succ, List.getD_cons_zero]; (first | done | exact rfl)))); (simp only [rel.put_lit, List.set_cons_succ, List.set_cons_zero]))
  ((apply rel.walk_val; (focus (intro wq hq hf; (have d0 := (hq.cell (p := ⟨k, 2, none⟩) hk).trans k2); go_wp2; refine ⟨hq, Below.refl _ _, ?_, rfl⟩; (show rel.slot _ _ = _; simp only [rel.slot_lit, List.getD_cons_succ, List.getD_cons_zero]; (first | done | exact rfl)))); (simp only [rel.put_lit, List.set_cons_succ, List.set_cons_zero])))
  (apply rel.walk_rel (fun u w' => sch.IsT w' u (T1)) ⟨_, rfl⟩ (fun u w1 w2 h1 h2 => h2.on h1); (focus (intro wq hq hf; go_wp2_with (go_at_call 78; with_reducible refine (o1 _ hq).mono ?_; rintro e w'' ⟨⟨u, rfl, hu⟩, hb⟩); refine ⟨hq.trans (hb.mono hq.size), hb, ?_, rfl⟩; (show sch.IsT _ (rel.slot _ _) _; simp only [rel.slot_lit, List.getD_cons_succ, List.getD_cons_zero]; exact hu))); (intro u wu _ hu; obtain ⟨pu, rfl, -⟩ := hu; (simp only [rel.put_lit, List.set_cons_succ, List.set_cons_zero])))
  (apply rel.walk_val; (focus (intro wq hq hf; go_wp2; refine ⟨hq, Below.refl _ _, ?_, rfl⟩; (show rel.slot _ _ = _; simp only [rel.slot_lit, List.getD_cons_succ, List.getD_cons_zero]; (first | done | exact rfl)))); (simp only [rel.put_lit, List.set_cons_succ, List.set_cons_zero]))
  (apply rel.walk_val; (focus (intro wq hq hf; go_wp2; refine ⟨hq, Below.refl _ _, ?_, rfl⟩; (show rel.slot _ _ = _; simp only [rel.slot_lit, List.getD_cons_succ, List.getD_cons_zero]; (first | done | exact rfl)))); (simp only [rel.put_lit, List.set_cons_succ, List.set_cons_zero]))
  (apply rel.walk_val; (focus (intro wq hq hf; go_wp2; refine ⟨hq, Below.refl _ _, ?_, rfl⟩; (show rel.slot _ _ = _; simp only [rel.slot_lit, List.getD_cons_succ, List.getD_cons_zero]; (first | done | exact rfl)))); (simp only [rel.put_lit, List.set_cons_succ, List.set_cons_zero]))
  (apply rel.walk_val; (focus (intro wq hq hf; go_wp2; refine ⟨hq, Below.refl _ _, ?_, rfl⟩; (show rel.slot _ _ = _; simp only [rel.slot_lit, List.getD_cons_succ, List.getD_cons_zero]; (first | done | exact rfl)))); (simp only [rel.put_lit, List.set_cons_succ, List.set_cons_zero]))
  ((apply rel.walk_val; (focus (intro wq hq hf; (have d0 := (hq.cell (p := ⟨k, 3, none⟩) hk).trans k3); go_wp2; refine ⟨hq, Below.refl _ _, ?_, rfl⟩; (show rel.slot _ _ = _; simp only [rel.slot_lit, List.getD_cons_succ, List.getD_cons_zero]; (first | done | exact rfl)))); (simp only [rel.put_lit, List.set_cons_succ, List.set_cons_zero])))
  (apply rel.walk_val; (focus (intro wq hq hf; go_wp2; refine ⟨hq, Below.refl _ _, ?_, rfl⟩; (show rel.slot _ _ = _; simp only [rel.slot_lit, List.getD_cons_succ, List.getD_cons_zero]; (first | done | exact rfl)))); (simp only [rel.put_lit, List.set_cons_succ, List.set_cons_zero]))
  (apply rel.walk_rel (fun u w' => sch.IsT w' u (T2)) ⟨_, rfl⟩ (fun u w1 w2 h1 h2 => h2.on h1); (focus (intro wq hq hf; go_wp2_with (go_at_call 78; with_reducible refine (o2 _ hq).mono ?_; rintro e w'' ⟨⟨u, rfl, hu⟩, hb⟩); refine ⟨hq.trans (hb.mono hq.size), hb, ?_, rfl⟩; (show sch.IsT _ (rel.slot _ _) _; simp only [rel.slot_lit, List.getD_cons_succ, List.getD_cons_zero]; exact hu))); (intro u wu _ hu; obtain ⟨pt, rfl, -⟩ := hu; (simp only [rel.put_lit, List.set_cons_succ, List.set_cons_zero])))
  (apply rel.walk_rel (fun u w' => sch.IsT w' u (mkn z T1 T2)) ⟨_, rfl⟩ (fun u w1 w2 h1 h2 => h2.on h1); (focus (intro wq hq hf; go_wp2_with (go_at_call 78; with_reducible refine (o3 _ _ _ (hf.get 1 rfl rfl) (hf.get 0 rfl rfl)).mono ?_; rintro e w'' ⟨⟨u, rfl, hu⟩, hb⟩); refine ⟨hq.trans (hb.mono hq.size), hb, ?_, rfl⟩; (show sch.IsT _ (rel.slot _ _) _; simp only [rel.slot_lit, List.getD_cons_succ, List.getD_cons_zero]; exact hu))); (intro u wu _ hu; obtain ⟨pz, rfl, -⟩ := hu; (simp only [rel.put_lit, List.set_cons_succ, List.set_cons_zero])))
  refine rel.walk_nil ?_
  intro w9 K9 hF
  have hu : IsT w9 (.pointer pz) _ := hF _ (List.mem_cons_self ..)
  clear hF
  simp only [List.drop_succ_cons, List.drop_zero]
  go_wp2
  go_ret
  exact ⟨⟨_, rfl, hdone.out _ _ hu⟩, K9⟩

set_option maxHeartbeats 8000000 in
theorem bal_rs {x y my : Int} {c d a : Tr} {p q : Option Addr} {w : World} (ha : IsT w (.pointer p) a) (hb : IsT w (.pointer q) (.node y my c d)) (ia : Wb a) (ib : Wb (.node y my c d)) (h : 3 * wt a < wt (.node y my c d)) (n : Near (wt a) (wt (.node y my c d))) (hd : ¬ 2 * wt d ≤ wt c) (hs : siz a + siz (.node y my c d) < 1152921504606846976) :
    Calls Try.prog 56 #[.int .i64 x, .pointer p, .pointer q] w fun e w' => (∃ u, e = .returned u ∧ IsG w' u (Good (keys a ++ x :: keys (.node y my c d)))) ∧ Below w.heap.size w w' := by
  have iib := ib
  have hdone : Hid (∀ W u, IsT W u (mkn y (mkn x a c) d) → IsG W u (Good (keys a ++ x :: keys (.node y my c d)))) := Lib.hid fun W u h9 => h9.g (good_rs ia ib h n hd)
  have t0 := tooHeavy_any (B := false) ha.nod hb.nod ia ib (by omega) (by omega) (decide_eq_false (by omega)).symm
  have t1 := tooHeavy_any (B := true) hb.nod ha.nod ib ia (by omega) (by omega) (decide_eq_true h).symm
  have ha0 := ha
  have K := Below.refl w.heap.size w
  obtain ⟨_, he, g, gc, gd, rfl, hg, hgv, hgc, hgd⟩ := hb
  cases he
  have g0 := hgv.cell 0
  have g2 := hgv.cell 2
  have g3 := hgv.cell 3
  simp only [List.getElem?_cons_zero, List.getElem?_cons_succ] at g0 g2 g3
  obtain ⟨-, e1, e2, ic, id⟩ := ib
  rw [siz_node] at hs
  have d1 := divides_any (B := false) hgc hgd ic id (by omega) (by omega) (decide_eq_false hd).symm
  have o1 := fun W (hW : Below w.heap.size w W) => over_any (x := x) (w := W) (ha0.on hW) ⟨_, rfl, hgc.grow hW hW.size⟩ ia ic (by omega)
  have o3 := fun W u (hW : Below w.heap.size w W) (hu : IsT W (.pointer u) (mkn x a c)) (i1 : Wb (mkn x a c)) => over_any (x := y) (w := W) hu ⟨_, rfl, hgd.grow hW hW.size⟩ i1 id (by rw [siz_mkn]; omega)
  have hgood := (good_rs (x := x) ia iib h n hd).1
  replace o3 := fun W v hW hv => o3 W v hW hv hgood.2.2.2.1
  generalize mkn x a c = T1 at *
  generalize Good (keys a ++ x :: keys (.node y my c d)) = GL at *
  clear ha0 hgv hgc hgd ha ia iib hd n h hs ic id e1 e2 hgood
  go_enter Try.func56, Try.ntmps56
  go_wp2_with (first
    | (go_at_call 76; (with_reducible refine t0.mono ?_); clear t0; rintro e w1 ⟨rfl, rfl⟩)
    | (go_at_call 76; (with_reducible refine t1.mono ?_); clear t1; rintro e w1 ⟨rfl, rfl⟩)
    | (go_at_call 77; (with_reducible refine d1.mono ?_); clear d1; rintro e w1 ⟨rfl, rfl⟩))
  apply rel.region_tail (C := fun w' => Below w.heap.size w w') (X := fun w w' => Below w.heap.size w w') 16 (by kernel_rfl) (by kernel_rfl) (by kernel_rfl) (by kernel_rfl) (K.drew)
  (apply rel.walk_val; (focus (intro wq hq hf; go_wp2; refine ⟨hq, Below.refl _ _, ?_, rfl⟩; (show rel.slot _ _ = _; simp only [rel.slot_lit, List.getD_cons_succ, List.getD_cons_zero]; (first | done | exact rfl)))); (simp only [rel.put_lit, List.set_cons_succ, List.set_cons_zero]))
  (apply rel.walk_val; (focus (intro wq hq hf; go_wp2; refine ⟨hq, Below.refl _ _, ?_, rfl⟩; (show rel.slot _ _ = _; simp only [rel.slot_lit, List.getD_cons_succ, List.getD_cons_zero]; (first | done | exact rfl)))); (simp only [rel.put_lit, List.set_cons_succ, List.set_cons_zero]))
  (apply rel.walk_val; (focus (intro wq hq hf; go_wp2; refine ⟨hq, Below.refl _ _, ?_, rfl⟩; (show rel.slot _ _ = _; simp only [rel.slot_lit, List.getD_cons_succ, List.getD_cons_zero]; (first | done | exact rfl)))); (simp only [rel.put_lit, List.set_cons_succ, List.set_cons_zero]))
  ((apply rel.walk_val; (focus (intro wq hq hf; (have d0 := (hq.cell (p := ⟨g, 0, none⟩) hg).trans g0); go_wp2; refine ⟨hq, Below.refl _ _, ?_, rfl⟩; (show rel.slot _ _ = _; simp only [rel.slot_lit, List.getD_cons_succ, List.getD_cons_zero]; (first | done | exact rfl)))); (simp only [rel.put_lit, List.set_cons_succ, List.set_cons_zero])))
  (apply rel.walk_val; (focus (intro wq hq hf; go_wp2; refine ⟨hq, Below.refl _ _, ?_, rfl⟩; (show rel.slot _ _ = _; simp only [rel.slot_lit, List.getD_cons_succ, List.getD_cons_zero]; (first | done | exact rfl)))); (simp only [rel.put_lit, List.set_cons_succ, List.set_cons_zero]))
  (apply rel.walk_val; (focus (intro wq hq hf; go_wp2; refine ⟨hq, Below.refl _ _, ?_, rfl⟩; (show rel.slot _ _ = _; simp only [rel.slot_lit, List.getD_cons_succ, List.getD_cons_zero]; (first | done | exact rfl)))); (simp only [rel.put_lit, List.set_cons_succ, List.set_cons_zero]))
  (apply rel.walk_val; (focus (intro wq hq hf; go_wp2; refine ⟨hq, Below.refl _ _, ?_, rfl⟩; (show rel.slot _ _ = _; simp only [rel.slot_lit, List.getD_cons_succ, List.getD_cons_zero]; (first | done | exact rfl)))); (simp only [rel.put_lit, List.set_cons_succ, List.set_cons_zero]))
  (apply rel.walk_val; (focus (intro wq hq hf; go_wp2; refine ⟨hq, Below.refl _ _, ?_, rfl⟩; (show rel.slot _ _ = _; simp only [rel.slot_lit, List.getD_cons_succ, List.getD_cons_zero]; (first | done | exact rfl)))); (simp only [rel.put_lit, List.set_cons_succ, List.set_cons_zero]))
  (apply rel.walk_val; (focus (intro wq hq hf; go_wp2; refine ⟨hq, Below.refl _ _, ?_, rfl⟩; (show rel.slot _ _ = _; simp only [rel.slot_lit, List.getD_cons_succ, List.getD_cons_zero]; (first | done | exact rfl)))); (simp only [rel.put_lit, List.set_cons_succ, List.set_cons_zero]))
  ((apply rel.walk_val; (focus (intro wq hq hf; (have d0 := (hq.cell (p := ⟨g, 2, none⟩) hg).trans g2); go_wp2; refine ⟨hq, Below.refl _ _, ?_, rfl⟩; (show rel.slot _ _ = _; simp only [rel.slot_lit, List.getD_cons_succ, List.getD_cons_zero]; (first | done | exact rfl)))); (simp only [rel.put_lit, List.set_cons_succ, List.set_cons_zero])))
  (apply rel.walk_rel (fun u w' => sch.IsT w' u (T1)) ⟨_, rfl⟩ (fun u w1 w2 h1 h2 => h2.on h1); (focus (intro wq hq hf; go_wp2_with (go_at_call 78; with_reducible refine (o1 _ hq).mono ?_; rintro e w'' ⟨⟨u, rfl, hu⟩, hb⟩); refine ⟨hq.trans (hb.mono hq.size), hb, ?_, rfl⟩; (show sch.IsT _ (rel.slot _ _) _; simp only [rel.slot_lit, List.getD_cons_succ, List.getD_cons_zero]; exact hu))); (intro u wu _ hu; obtain ⟨pu, rfl, -⟩ := hu; (simp only [rel.put_lit, List.set_cons_succ, List.set_cons_zero])))
  (apply rel.walk_val; (focus (intro wq hq hf; go_wp2; refine ⟨hq, Below.refl _ _, ?_, rfl⟩; (show rel.slot _ _ = _; simp only [rel.slot_lit, List.getD_cons_succ, List.getD_cons_zero]; (first | done | exact rfl)))); (simp only [rel.put_lit, List.set_cons_succ, List.set_cons_zero]))
  (apply rel.walk_val; (focus (intro wq hq hf; go_wp2; refine ⟨hq, Below.refl _ _, ?_, rfl⟩; (show rel.slot _ _ = _; simp only [rel.slot_lit, List.getD_cons_succ, List.getD_cons_zero]; (first | done | exact rfl)))); (simp only [rel.put_lit, List.set_cons_succ, List.set_cons_zero]))
  (apply rel.walk_val; (focus (intro wq hq hf; go_wp2; refine ⟨hq, Below.refl _ _, ?_, rfl⟩; (show rel.slot _ _ = _; simp only [rel.slot_lit, List.getD_cons_succ, List.getD_cons_zero]; (first | done | exact rfl)))); (simp only [rel.put_lit, List.set_cons_succ, List.set_cons_zero]))
  ((apply rel.walk_val; (focus (intro wq hq hf; (have d0 := (hq.cell (p := ⟨g, 3, none⟩) hg).trans g3); go_wp2; refine ⟨hq, Below.refl _ _, ?_, rfl⟩; (show rel.slot _ _ = _; simp only [rel.slot_lit, List.getD_cons_succ, List.getD_cons_zero]; (first | done | exact rfl)))); (simp only [rel.put_lit, List.set_cons_succ, List.set_cons_zero])))
  (apply rel.walk_rel (fun u w' => sch.IsT w' u (mkn y T1 d)) ⟨_, rfl⟩ (fun u w1 w2 h1 h2 => h2.on h1); (focus (intro wq hq hf; go_wp2_with (go_at_call 78; with_reducible refine (o3 _ _ hq (hf.get 0 rfl rfl)).mono ?_; rintro e w'' ⟨⟨u, rfl, hu⟩, hb⟩); refine ⟨hq.trans (hb.mono hq.size), hb, ?_, rfl⟩; (show sch.IsT _ (rel.slot _ _) _; simp only [rel.slot_lit, List.getD_cons_succ, List.getD_cons_zero]; exact hu))); (intro u wu _ hu; obtain ⟨pz, rfl, -⟩ := hu; (simp only [rel.put_lit, List.set_cons_succ, List.set_cons_zero])))
  refine rel.walk_nil ?_
  intro w9 K9 hF
  have hu : IsT w9 (.pointer pz) _ := hF _ (List.mem_cons_self ..)
  clear hF
  simp only [List.drop_succ_cons, List.drop_zero]
  go_wp2
  go_ret
  exact ⟨⟨_, rfl, hdone.out _ _ hu⟩, K9⟩

set_option maxHeartbeats 8000000 in
theorem bal_rd {x y my z mz : Int} {d r s a : Tr} {p q : Option Addr} {w : World} (ha : IsT w (.pointer p) a) (hb : IsT w (.pointer q) (.node y my (.node z mz r s) d)) (ia : Wb a) (ib : Wb (.node y my (.node z mz r s) d)) (h : 3 * wt a < wt (.node y my (.node z mz r s) d)) (n : Near (wt a) (wt (.node y my (.node z mz r s) d))) (hd : 2 * wt d ≤ wt (.node z mz r s)) (hs : siz a + siz (.node y my (.node z mz r s) d) < 1152921504606846976) :
    Calls Try.prog 56 #[.int .i64 x, .pointer p, .pointer q] w fun e w' => (∃ u, e = .returned u ∧ IsG w' u (Good (keys a ++ x :: keys (.node y my (.node z mz r s) d)))) ∧ Below w.heap.size w w' := by
  have iib := ib
  have hdone : Hid (∀ W u, IsT W u (mkn z (mkn x a r) (mkn y s d)) → IsG W u (Good (keys a ++ x :: keys (.node y my (.node z mz r s) d)))) := Lib.hid fun W u h9 => h9.g (good_rd ia ib h n hd)
  have t0 := tooHeavy_any (B := false) ha.nod hb.nod ia ib (by omega) (by omega) (decide_eq_false (by omega)).symm
  have t1 := tooHeavy_any (B := true) hb.nod ha.nod ib ia (by omega) (by omega) (decide_eq_true h).symm
  have ha0 := ha
  have K := Below.refl w.heap.size w
  obtain ⟨_, he, g, gc, gd, rfl, hg, hgv, hgc, hgd⟩ := hb
  cases he
  have g0 := hgv.cell 0
  have g2 := hgv.cell 2
  have g3 := hgv.cell 3
  simp only [List.getElem?_cons_zero, List.getElem?_cons_succ] at g0 g2 g3
  obtain ⟨-, e1, e2, ic, id⟩ := ib
  rw [siz_node] at hs
  rw [siz_node] at hs
  have d1 := divides_any (B := true) hgc hgd ic id (by rw [siz_node]; omega) (by omega) (decide_eq_true hd).symm
  obtain ⟨k, kc, kd, rfl, hk, hv2, nr, ns⟩ := hgc
  have k0 := hv2.cell 0
  have k2 := hv2.cell 2
  have k3 := hv2.cell 3
  simp only [List.getElem?_cons_zero, List.getElem?_cons_succ] at k0 k2 k3
  obtain ⟨-, e3, e4, ir, is⟩ := ic
  have o1 := fun W (hW : Below w.heap.size w W) => over_any (x := x) (w := W) (ha0.on hW) ⟨_, rfl, nr.grow hW hW.size⟩ ia ir (by omega)
  have o2 := fun W (hW : Below w.heap.size w W) => over_any (x := y) (w := W) ⟨_, rfl, ns.grow hW hW.size⟩ ⟨_, rfl, hgd.grow hW hW.size⟩ is id (by omega)
  have o3 := fun W u v (hu : IsT W (.pointer u) (mkn x a r)) (hv : IsT W (.pointer v) (mkn y s d)) (i1 : Wb (mkn x a r)) (i2 : Wb (mkn y s d)) => over_any (x := z) (w := W) hu hv i1 i2 (by rw [siz_mkn, siz_mkn]; omega)
  have hgood := (good_rd (x := x) ia iib h n hd).1
  replace o3 := fun W u v hu hv => o3 W u v hu hv hgood.2.2.2.1 hgood.2.2.2.2
  generalize mkn x a r = T1 at *
  generalize mkn y s d = T2 at *
  have hdd := hdone
  generalize Good (keys a ++ x :: keys (.node y my (.node z mz r s) d)) = GL at *
  clear ha0 hgv hgd ha ia iib hd n h hs id e1 e2 hgood hv2 nr ns ir is e3 e4
  go_enter Try.func56, Try.ntmps56
  go_wp2_with (first
    | (go_at_call 76; (with_reducible refine t0.mono ?_); clear t0; rintro e w1 ⟨rfl, rfl⟩)
    | (go_at_call 76; (with_reducible refine t1.mono ?_); clear t1; rintro e w1 ⟨rfl, rfl⟩)
    | (go_at_call 77; (with_reducible refine d1.mono ?_); clear d1; rintro e w1 ⟨rfl, rfl⟩))
  apply rel.region_tail (C := fun w' => Below w.heap.size w w') (X := fun w w' => Below w.heap.size w w') 25 (by kernel_rfl) (by kernel_rfl) (by kernel_rfl) (by kernel_rfl) (K.drew)
  (apply rel.walk_val; (focus (intro wq hq hf; go_wp2; refine ⟨hq, Below.refl _ _, ?_, rfl⟩; (show rel.slot _ _ = _; simp only [rel.slot_lit, List.getD_cons_succ, List.getD_cons_zero]; (first | done | exact rfl)))); (simp only [rel.put_lit, List.set_cons_succ, List.set_cons_zero]))
  (apply rel.walk_val; (focus (intro wq hq hf; go_wp2; refine ⟨hq, Below.refl _ _, ?_, rfl⟩; (show rel.slot _ _ = _; simp only [rel.slot_lit, List.getD_cons_succ, List.getD_cons_zero]; (first | done | exact rfl)))); (simp only [rel.put_lit, List.set_cons_succ, List.set_cons_zero]))
  (apply rel.walk_val; (focus (intro wq hq hf; go_wp2; refine ⟨hq, Below.refl _ _, ?_, rfl⟩; (show rel.slot _ _ = _; simp only [rel.slot_lit, List.getD_cons_succ, List.getD_cons_zero]; (first | done | exact rfl)))); (simp only [rel.put_lit, List.set_cons_succ, List.set_cons_zero]))
  ((apply rel.walk_val; (focus (intro wq hq hf; (have d0 := (hq.cell (p := ⟨k, 0, none⟩) hk).trans k0); go_wp2; refine ⟨hq, Below.refl _ _, ?_, rfl⟩; (show rel.slot _ _ = _; simp only [rel.slot_lit, List.getD_cons_succ, List.getD_cons_zero]; (first | done | exact rfl)))); (simp only [rel.put_lit, List.set_cons_succ, List.set_cons_zero])))
  (apply rel.walk_val; (focus (intro wq hq hf; go_wp2; refine ⟨hq, Below.refl _ _, ?_, rfl⟩; (show rel.slot _ _ = _; simp only [rel.slot_lit, List.getD_cons_succ, List.getD_cons_zero]; (first | done | exact rfl)))); (simp only [rel.put_lit, List.set_cons_succ, List.set_cons_zero]))
  (apply rel.walk_val; (focus (intro wq hq hf; go_wp2; refine ⟨hq, Below.refl _ _, ?_, rfl⟩; (show rel.slot _ _ = _; simp only [rel.slot_lit, List.getD_cons_succ, List.getD_cons_zero]; (first | done | exact rfl)))); (simp only [rel.put_lit, List.set_cons_succ, List.set_cons_zero]))
  (apply rel.walk_val; (focus (intro wq hq hf; go_wp2; refine ⟨hq, Below.refl _ _, ?_, rfl⟩; (show rel.slot _ _ = _; simp only [rel.slot_lit, List.getD_cons_succ, List.getD_cons_zero]; (first | done | exact rfl)))); (simp only [rel.put_lit, List.set_cons_succ, List.set_cons_zero]))
  (apply rel.walk_val; (focus (intro wq hq hf; go_wp2; refine ⟨hq, Below.refl _ _, ?_, rfl⟩; (show rel.slot _ _ = _; simp only [rel.slot_lit, List.getD_cons_succ, List.getD_cons_zero]; (first | done | exact rfl)))); (simp only [rel.put_lit, List.set_cons_succ, List.set_cons_zero]))
  (apply rel.walk_val; (focus (intro wq hq hf; go_wp2; refine ⟨hq, Below.refl _ _, ?_, rfl⟩; (show rel.slot _ _ = _; simp only [rel.slot_lit, List.getD_cons_succ, List.getD_cons_zero]; (first | done | exact rfl)))); (simp only [rel.put_lit, List.set_cons_succ, List.set_cons_zero]))
  ((apply rel.walk_val; (focus (intro wq hq hf; (have d0 := (hq.cell (p := ⟨k, 2, none⟩) hk).trans k2); go_wp2; refine ⟨hq, Below.refl _ _, ?_, rfl⟩; (show rel.slot _ _ = _; simp only [rel.slot_lit, List.getD_cons_succ, List.getD_cons_zero]; (first | done | exact rfl)))); (simp only [rel.put_lit, List.set_cons_succ, List.set_cons_zero])))
  (apply rel.walk_rel (fun u w' => sch.IsT w' u (T1)) ⟨_, rfl⟩ (fun u w1 w2 h1 h2 => h2.on h1); (focus (intro wq hq hf; go_wp2_with (go_at_call 78; with_reducible refine (o1 _ hq).mono ?_; rintro e w'' ⟨⟨u, rfl, hu⟩, hb⟩); refine ⟨hq.trans (hb.mono hq.size), hb, ?_, rfl⟩; (show sch.IsT _ (rel.slot _ _) _; simp only [rel.slot_lit, List.getD_cons_succ, List.getD_cons_zero]; exact hu))); (intro u wu _ hu; obtain ⟨pu, rfl, -⟩ := hu; (simp only [rel.put_lit, List.set_cons_succ, List.set_cons_zero])))
  (apply rel.walk_val; (focus (intro wq hq hf; go_wp2; refine ⟨hq, Below.refl _ _, ?_, rfl⟩; (show rel.slot _ _ = _; simp only [rel.slot_lit, List.getD_cons_succ, List.getD_cons_zero]; (first | done | exact rfl)))); (simp only [rel.put_lit, List.set_cons_succ, List.set_cons_zero]))
  (apply rel.walk_val; (focus (intro wq hq hf; go_wp2; refine ⟨hq, Below.refl _ _, ?_, rfl⟩; (show rel.slot _ _ = _; simp only [rel.slot_lit, List.getD_cons_succ, List.getD_cons_zero]; (first | done | exact rfl)))); (simp only [rel.put_lit, List.set_cons_succ, List.set_cons_zero]))
  (apply rel.walk_val; (focus (intro wq hq hf; go_wp2; refine ⟨hq, Below.refl _ _, ?_, rfl⟩; (show rel.slot _ _ = _; simp only [rel.slot_lit, List.getD_cons_succ, List.getD_cons_zero]; (first | done | exact rfl)))); (simp only [rel.put_lit, List.set_cons_succ, List.set_cons_zero]))
  ((apply rel.walk_val; (focus (intro wq hq hf; (have d0 := (hq.cell (p := ⟨g, 0, none⟩) hg).trans g0); go_wp2; refine ⟨hq, Below.refl _ _, ?_, rfl⟩; (show rel.slot _ _ = _; simp only [rel.slot_lit, List.getD_cons_succ, List.getD_cons_zero]; (first | done | exact rfl)))); (simp only [rel.put_lit, List.set_cons_succ, List.set_cons_zero])))
  (apply rel.walk_val; (focus (intro wq hq hf; go_wp2; refine ⟨hq, Below.refl _ _, ?_, rfl⟩; (show rel.slot _ _ = _; simp only [rel.slot_lit, List.getD_cons_succ, List.getD_cons_zero]; (first | done | exact rfl)))); (simp only [rel.put_lit, List.set_cons_succ, List.set_cons_zero]))
  (apply rel.walk_val; (focus (intro wq hq hf; go_wp2; refine ⟨hq, Below.refl _ _, ?_, rfl⟩; (show rel.slot _ _ = _; simp only [rel.slot_lit, List.getD_cons_succ, List.getD_cons_zero]; (first | done | exact rfl)))); (simp only [rel.put_lit, List.set_cons_succ, List.set_cons_zero]))
  (apply rel.walk_val; (focus (intro wq hq hf; go_wp2; refine ⟨hq, Below.refl _ _, ?_, rfl⟩; (show rel.slot _ _ = _; simp only [rel.slot_lit, List.getD_cons_succ, List.getD_cons_zero]; (first | done | exact rfl)))); (simp only [rel.put_lit, List.set_cons_succ, List.set_cons_zero]))
  ((apply rel.walk_val; (focus (intro wq hq hf; (have d0 := (hq.cell (p := ⟨k, 3, none⟩) hk).trans k3); go_wp2; refine ⟨hq, Below.refl _ _, ?_, rfl⟩; (show rel.slot _ _ = _; simp only [rel.slot_lit, List.getD_cons_succ, List.getD_cons_zero]; (first | done | exact rfl)))); (simp only [rel.put_lit, List.set_cons_succ, List.set_cons_zero])))
  (apply rel.walk_val; (focus (intro wq hq hf; go_wp2; refine ⟨hq, Below.refl _ _, ?_, rfl⟩; (show rel.slot _ _ = _; simp only [rel.slot_lit, List.getD_cons_succ, List.getD_cons_zero]; (first | done | exact rfl)))); (simp only [rel.put_lit, List.set_cons_succ, List.set_cons_zero]))
  (apply rel.walk_val; (focus (intro wq hq hf; go_wp2; refine ⟨hq, Below.refl _ _, ?_, rfl⟩; (show rel.slot _ _ = _; simp only [rel.slot_lit, List.getD_cons_succ, List.getD_cons_zero]; (first | done | exact rfl)))); (simp only [rel.put_lit, List.set_cons_succ, List.set_cons_zero]))
  (apply rel.walk_val; (focus (intro wq hq hf; go_wp2; refine ⟨hq, Below.refl _ _, ?_, rfl⟩; (show rel.slot _ _ = _; simp only [rel.slot_lit, List.getD_cons_succ, List.getD_cons_zero]; (first | done | exact rfl)))); (simp only [rel.put_lit, List.set_cons_succ, List.set_cons_zero]))
  ((apply rel.walk_val; (focus (intro wq hq hf; (have d0 := (hq.cell (p := ⟨g, 3, none⟩) hg).trans g3); go_wp2; refine ⟨hq, Below.refl _ _, ?_, rfl⟩; (show rel.slot _ _ = _; simp only [rel.slot_lit, List.getD_cons_succ, List.getD_cons_zero]; (first | done | exact rfl)))); (simp only [rel.put_lit, List.set_cons_succ, List.set_cons_zero])))
  (apply rel.walk_rel (fun u w' => sch.IsT w' u (T2)) ⟨_, rfl⟩ (fun u w1 w2 h1 h2 => h2.on h1); (focus (intro wq hq hf; go_wp2_with (go_at_call 78; with_reducible refine (o2 _ hq).mono ?_; rintro e w'' ⟨⟨u, rfl, hu⟩, hb⟩); refine ⟨hq.trans (hb.mono hq.size), hb, ?_, rfl⟩; (show sch.IsT _ (rel.slot _ _) _; simp only [rel.slot_lit, List.getD_cons_succ, List.getD_cons_zero]; exact hu))); (intro u wu _ hu; obtain ⟨pt, rfl, -⟩ := hu; (simp only [rel.put_lit, List.set_cons_succ, List.set_cons_zero])))
  (apply rel.walk_rel (fun u w' => sch.IsT w' u (mkn z T1 T2)) ⟨_, rfl⟩ (fun u w1 w2 h1 h2 => h2.on h1); (focus (intro wq hq hf; go_wp2_with (go_at_call 78; with_reducible refine (o3 _ _ _ (hf.get 1 rfl rfl) (hf.get 0 rfl rfl)).mono ?_; rintro e w'' ⟨⟨u, rfl, hu⟩, hb⟩); refine ⟨hq.trans (hb.mono hq.size), hb, ?_, rfl⟩; (show sch.IsT _ (rel.slot _ _) _; simp only [rel.slot_lit, List.getD_cons_succ, List.getD_cons_zero]; exact hu))); (intro u wu _ hu; obtain ⟨pz, rfl, -⟩ := hu; (simp only [rel.put_lit, List.set_cons_succ, List.set_cons_zero])))
  refine rel.walk_nil ?_
  intro w9 K9 hF
  have hu : IsT w9 (.pointer pz) _ := hF _ (List.mem_cons_self ..)
  clear hF
  simp only [List.drop_succ_cons, List.drop_zero]
  go_wp2
  go_ret
  exact ⟨⟨_, rfl, hdone.out _ _ hu⟩, K9⟩

theorem balanced_any {x : Int} {A B : List Int} {p q : Option Addr} {w : World} (ha : IsG w (.pointer p) (Good A)) (hb : IsG w (.pointer q) (Good B)) (n1 : Near (A.length + 1) (B.length + 1)) (n2 : Near (B.length + 1) (A.length + 1)) (hs : A.length + B.length < 1152921504606846976) :
    Calls Try.prog 56 #[.int .i64 x, .pointer p, .pointer q] w fun e w' => (∃ u, e = .returned u ∧ IsG w' u (Good (A ++ x :: B))) ∧ Below w.heap.size w w' := by
  obtain ⟨_, a, he, hn, ga⟩ := ha
  cases he
  obtain ⟨_, b, he, hn', gb⟩ := hb
  cases he
  rw [← ga.wt, ← gb.wt] at n1 n2
  rw [← ga.siz, ← gb.siz] at hs
  obtain ⟨ia, rfl⟩ := ga
  obtain ⟨ib, rfl⟩ := gb
  by_cases h1 : 3 * wt b < wt a
  · rcases a with _ | ⟨y, my, c, d⟩
    · have := wt_pos b; rw [wt_nil] at h1; omega
    · by_cases e : 2 * wt c ≤ wt d
      · rcases d with _ | ⟨z, mz, r, s⟩
        · have := wt_pos c; rw [wt_nil] at e; omega
        · exact bal_ld hn.t hn'.t ia ib h1 n2 e hs
      · exact bal_ls hn.t hn'.t ia ib h1 n2 e hs
  · by_cases h2 : 3 * wt a < wt b
    · rcases b with _ | ⟨y, my, c, d⟩
      · have := wt_pos a; rw [wt_nil] at h2; omega
      · by_cases e : 2 * wt d ≤ wt c
        · rcases c with _ | ⟨z, mz, r, s⟩
          · have := wt_pos d; rw [wt_nil] at e; omega
          · exact bal_rd hn.t hn'.t ia ib h2 n1 e hs
        · exact bal_rs hn.t hn'.t ia ib h2 n1 e hs
    · exact bal_same hn.t hn'.t ia ib h1 h2 hs
end Go.Proofs.Ytlaflhnnddfkkaa.wbt
