/- Package avl: heights, a tree of a number and two trees, balanced. -/
import Derived.Test.YtlaflhnnddfkkaaSch
import Derived.Lib.MinMax
namespace Go.Proofs.Ytlaflhnnddfkkaa.avl
open Go Go.RowKit
open Go.Proofs.Ytlaflhnnddfkkaa.sch

/-- each mark is the height; both sides differ by 1 at most -/
def Avl : Tr → Prop
  | .nil => True
  | .node _ m l r => m = ((max (hgt l) (hgt r) + 1 : Nat) : Int) ∧ hgt l ≤ hgt r + 1 ∧ hgt r ≤ hgt l + 1 ∧ Avl l ∧ Avl r
def mkn (x : Int) (a b : Tr) : Tr := .node x ((max (hgt a) (hgt b) + 1 : Nat) : Int) a b
theorem hgt_mkn (x : Int) (a b : Tr) : hgt (mkn x a b) = max (hgt a) (hgt b) + 1 := rfl
theorem keys_mkn (x : Int) (a b : Tr) : keys (mkn x a b) = keys a ++ x :: keys b := rfl
theorem mkn_avl {x : Int} {a b : Tr} (ha : Avl a) (hb : Avl b) (h1 : hgt a ≤ hgt b + 1) (h2 : hgt b ≤ hgt a + 1) : Avl (mkn x a b) := ⟨rfl, h1, h2, ha, hb⟩

set_option maxHeartbeats 4000000 in
theorem height_any {t : Tr} {p : Option Addr} {w : World} (h : Nod w.heap.size w t p) (hi : Avl t) :
    Calls Try.prog 71 #[.pointer p] w fun e w' => e = .returned (.int .i64 (hgt t : Int)) ∧ Below w.heap.size w w' := by
  rcases t with _ | ⟨x, m, l, r⟩
  · obtain rfl : p = none := h
    go_enter Try.func71, Try.ntmps71
    go_wp2_with fail
    go_ret
    exact ⟨rfl, Below.refl _ _⟩
  · obtain ⟨g, c, d, rfl, hg, hk, -, -⟩ := h
    have c1 := hk.cell 1
    simp only [List.getElem?_cons_zero, List.getElem?_cons_succ] at c1
    rw [hi.1] at c1
    show Calls _ _ _ _ fun e w' => e = .returned (.int .i64 ((max (hgt l) (hgt r) + 1 : Nat) : Int)) ∧ _
    generalize ((max (hgt l) (hgt r) + 1 : Nat) : Int) = K at *
    clear hi hk
    go_enter Try.func71, Try.ntmps71
    go_wp2_with fail
    go_ret
    exact ⟨rfl, Below.refl _ _⟩

set_option maxHeartbeats 8000000 in
theorem over_any {x : Int} {a b : Tr} {p q : Option Addr} {w : World} (ha : IsT w (.pointer p) a) (hb : IsT w (.pointer q) b) (ia : Avl a) (ib : Avl b) (hs : hgt a + hgt b < 4611686018427387903) :
    Calls Try.prog 72 #[.int .i64 x, .pointer p, .pointer q] w fun e w' => (∃ u, e = .returned u ∧ IsT w' u (mkn x a b)) ∧ Below w.heap.size w w' := by
  have hA := fun W (hW : Below w.heap.size w W) => height_any (ha.nod.grow hW hW.size) ia
  have hB := fun W (hW : Below w.heap.size w W) => height_any (hb.nod.grow hW hW.size) ib
  have hdone : Hid (∀ (W : World) (G : Nat) (sp : Int), Below w.heap.size w W → hp.Blk W G tyT [.int .i64 x, .int .i64 sp, .pointer p, .pointer q] → sp = ((max (hgt a) (hgt b) + 1 : Nat) : Int) → IsT W (.pointer (some ⟨G, 0, none⟩)) (mkn x a b)) := by
    rintro W G sp hW hG rfl
    exact ⟨_, rfl, G, p, q, rfl, hG.lt, hG, ha.nod.grow hW hW.size, hb.nod.grow hW hW.size⟩
  have K := Below.refl w.heap.size w
  obtain ⟨m, hm⟩ : ∃ m, hgt a = m := ⟨_, rfl⟩
  obtain ⟨n, hn⟩ : ∃ n, hgt b = n := ⟨_, rfl⟩
  rw [hm] at hA hs hdone
  rw [hn] at hB hs hdone
  clear ha hb ia ib hm hn
  go_enter Try.func72, Try.ntmps72
  go_wp2_with (first
    | (go_at_call 71; with_reducible refine (hA _ K).mono ?_; clear hA; rintro e w1 ⟨rfl, hb1⟩; replace K := K.trans (hb1.mono K.size); clear hb1)
    | (go_at_call 71; with_reducible refine (hB _ K).mono ?_; clear hB; rintro e w1 ⟨rfl, hb1⟩; replace K := K.trans (hb1.mono K.size); clear hb1))
  go_ret
  have hb0 := K.alloc K.size (.cells #[.int .i64 x, .int .i64 (1 + max (m : Int) (n : Int)), .pointer p, .pointer q] tyT)
  exact ⟨⟨_, rfl, hdone.out _ _ _ hb0 (hp.Blk.newAt (cs := [.int .i64 x, .int .i64 (1 + max (m : Int) (n : Int)), .pointer p, .pointer q]) rfl) (by omega)⟩, hb0⟩

/-- what is balanced: the numbers stay; how high it is -/
def Bal (x : Int) (a b t : Tr) : Prop := Avl t ∧ keys t = keys a ++ x :: keys b ∧ max (hgt a) (hgt b) ≤ hgt t ∧ hgt t ≤ max (hgt a) (hgt b) + 1 ∧ (hgt a ≤ hgt b + 1 → hgt b ≤ hgt a + 1 → hgt t = max (hgt a) (hgt b) + 1)
theorem bal_same {x : Int} {a b : Tr} (ia : Avl a) (ib : Avl b) (h1 : hgt a ≤ hgt b + 1) (h2 : hgt b ≤ hgt a + 1) : Bal x a b (mkn x a b) :=
  ⟨mkn_avl ia ib h1 h2, rfl, by rw [hgt_mkn]; omega, by rw [hgt_mkn]; omega, fun _ _ => rfl⟩
theorem bal_one {x y my : Int} {c d b : Tr} (ia : Avl (.node y my c d)) (ib : Avl b) (h : hgt (.node y my c d) = hgt b + 2) (hcd : hgt d ≤ hgt c) : Bal x (.node y my c d) b (mkn y c (mkn x d b)) := by
  obtain ⟨-, h1, h2, h3, h4⟩ := ia
  simp only [hgt] at h
  refine ⟨mkn_avl h3 (mkn_avl h4 ib (by omega) (by omega)) (by rw [hgt_mkn]; omega) (by rw [hgt_mkn]; omega), by simp [keys_mkn, keys], ?_, ?_, ?_⟩ <;> simp only [hgt_mkn, hgt] <;> omega
theorem bal_two {x y my z mz : Int} {c r s b : Tr} (ia : Avl (.node y my c (.node z mz r s))) (ib : Avl b) (h : hgt (.node y my c (.node z mz r s)) = hgt b + 2) (hcd : hgt c < hgt (.node z mz r s)) : Bal x (.node y my c (.node z mz r s)) b (mkn z (mkn y c r) (mkn x s b)) := by
  obtain ⟨-, h1, h2, h3, -, h5, h6, h7, h8⟩ := ia
  simp only [hgt] at h hcd h1 h2
  refine ⟨mkn_avl (mkn_avl h3 h7 (by omega) (by omega)) (mkn_avl h8 ib (by omega) (by omega)) (by rw [hgt_mkn, hgt_mkn]; omega) (by rw [hgt_mkn, hgt_mkn]; omega), by simp [keys_mkn, keys], ?_, ?_, ?_⟩ <;> simp only [hgt_mkn, hgt] <;> omega
theorem bal_three {x y my : Int} {c d a : Tr} (ia : Avl a) (ib : Avl (.node y my c d)) (h : hgt (.node y my c d) = hgt a + 2) (hcd : hgt c ≤ hgt d) : Bal x a (.node y my c d) (mkn y (mkn x a c) d) := by
  obtain ⟨-, h1, h2, h3, h4⟩ := ib
  simp only [hgt] at h
  refine ⟨mkn_avl (mkn_avl ia h3 (by omega) (by omega)) h4 (by rw [hgt_mkn]; omega) (by rw [hgt_mkn]; omega), by simp [keys_mkn, keys], ?_, ?_, ?_⟩ <;> simp only [hgt_mkn, hgt] <;> omega
theorem bal_four {x y my z mz : Int} {d r s a : Tr} (ia : Avl a) (ib : Avl (.node y my (.node z mz r s) d)) (h : hgt (.node y my (.node z mz r s) d) = hgt a + 2) (hcd : hgt d < hgt (.node z mz r s)) : Bal x a (.node y my (.node z mz r s) d) (mkn z (mkn x a r) (mkn y s d)) := by
  obtain ⟨-, h1, h2, h3, h4⟩ := ib
  obtain ⟨-, h5, h6, h7, h8⟩ := h3
  simp only [hgt] at h hcd h1 h2
  refine ⟨mkn_avl (mkn_avl ia h7 (by omega) (by omega)) (mkn_avl h8 h4 (by omega) (by omega)) (by rw [hgt_mkn, hgt_mkn]; omega) (by rw [hgt_mkn, hgt_mkn]; omega), by simp [keys_mkn, keys], ?_, ?_, ?_⟩ <;> simp only [hgt_mkn, hgt] <;> omega


set_option maxHeartbeats 8000000 in
theorem balanced_same {x : Int} {a b : Tr} {p q : Option Addr} {w : World} (ha : IsT w (.pointer p) a) (hb : IsT w (.pointer q) b) (ia : Avl a) (ib : Avl b) (h1 : hgt a ≤ hgt b + 1) (h2 : hgt b ≤ hgt a + 1) (hs : hgt a + hgt b < 4611686018427387900) :
    Calls Try.prog 54 #[.int .i64 x, .pointer p, .pointer q] w fun e w' => (∃ u, e = .returned u ∧ IsG w' u (Bal x a b)) ∧ Below w.heap.size w w' := by
  have hA := fun W (hW : Below w.heap.size w W) => height_any (ha.nod.grow hW hW.size) ia
  have hB := fun W (hW : Below w.heap.size w W) => height_any (hb.nod.grow hW hW.size) ib
  have hO := fun W (hW : Below w.heap.size w W) => over_any (x := x) (w := W) ⟨_, rfl, ha.nod.grow hW hW.size⟩ ⟨_, rfl, hb.nod.grow hW hW.size⟩ ia ib (by omega)
  have hdone : Hid (∀ W u, IsT W u (mkn x a b) → IsG W u (Bal x a b)) := Lib.hid fun W u h => h.g (bal_same ia ib h1 h2)
  have K := Below.refl w.heap.size w
  obtain ⟨m, hm⟩ : ∃ m, hgt a = m := ⟨_, rfl⟩
  obtain ⟨n, hn⟩ : ∃ n, hgt b = n := ⟨_, rfl⟩
  rw [hm] at hA hs h1 h2
  rw [hn] at hB hs h1 h2
  have e1 : ¬ ((m : Int) - n = 2) := by omega
  have e2 : ¬ ((m : Int) - n = -2) := by omega
  clear ha hb ia ib hm hn
  go_enter Try.func54, Try.ntmps54
  go_wp2_with (first
    | (go_at_call 71; with_reducible refine (hA _ K).mono ?_; clear hA; rintro e w1 ⟨rfl, hb1⟩; replace K := K.trans (hb1.mono K.size); clear hb1)
    | (go_at_call 71; with_reducible refine (hB _ K).mono ?_; clear hB; rintro e w1 ⟨rfl, hb1⟩; replace K := K.trans (hb1.mono K.size); clear hb1)
    | (go_at_call 72; with_reducible refine (hO _ K).mono ?_; clear hO; rintro e w1 ⟨⟨u, rfl, hu⟩, hb1⟩; replace K := K.trans (hb1.mono K.size); clear hb1))
  go_ret
  exact ⟨⟨_, rfl, hdone.out _ _ hu⟩, K⟩

set_option maxHeartbeats 8000000 in
theorem balanced_one {x y my : Int} {c d b : Tr} {p q : Option Addr} {w : World} (ha : IsT w (.pointer p) (.node y my c d)) (hb : IsT w (.pointer q) b) (ia : Avl (.node y my c d)) (ib : Avl b) (hx : hgt (.node y my c d) = hgt b + 2) (hcd : hgt d ≤ hgt c) (hs : hgt (.node y my c d) + hgt b < 4611686018427387900) :
    Calls Try.prog 54 #[.int .i64 x, .pointer p, .pointer q] w fun e w' => (∃ u, e = .returned u ∧ IsG w' u (Bal x (.node y my c d) b)) ∧ Below w.heap.size w w' := by
  have hA := fun W (hW : Below w.heap.size w W) => height_any (ha.nod.grow hW hW.size) ia
  have hB := fun W (hW : Below w.heap.size w W) => height_any (hb.nod.grow hW hW.size) ib
  have hdone : Hid (∀ W u, IsT W u (mkn y c (mkn x d b)) → IsG W u (Bal x (.node y my c d) b)) := Lib.hid fun W u h9 => h9.g (bal_one ia ib hx hcd)
  have hx0 := hx
  obtain ⟨_, he, g, pc, pd, rfl, hg, hv, hc, hd⟩ := ha
  cases he
  obtain ⟨-, k1, k2, ic, id⟩ := ia
  have g0 := hv.cell 0
  have g2 := hv.cell 2
  have g3 := hv.cell 3
  simp only [List.getElem?_cons_zero, List.getElem?_cons_succ] at g0 g2 g3
  have hC := fun W (hW : Below w.heap.size w W) => height_any (hc.grow hW hW.size) ic
  have hD := fun W (hW : Below w.heap.size w W) => height_any (hd.grow hW hW.size) id
  simp only [hgt] at hx k1 k2 hs hcd
  have o1 := fun W (hW : Below w.heap.size w W) => over_any (x := x) (w := W) ⟨_, rfl, hd.grow hW hW.size⟩ ⟨_, rfl, hb.nod.grow hW hW.size⟩ id ib (by omega)
  have o3 := fun W v (hW : Below w.heap.size w W) (hv : IsT W (.pointer v) (mkn x d b)) => over_any (x := y) (w := W) ⟨_, rfl, hc.grow hW hW.size⟩ hv ic (mkn_avl id ib (by omega) (by omega)) (by rw [hgt_mkn]; omega)
  obtain ⟨m, hm⟩ : ∃ m, hgt (.node y my c d) = m := ⟨_, rfl⟩
  obtain ⟨n, hn⟩ : ∃ n, hgt b = n := ⟨_, rfl⟩
  rw [hm] at hA hx0
  rw [hn] at hB hx0
  have e1 : (m : Int) - n = 2 := by omega
  have hlt : m < 4611686018427387900 ∧ n < 4611686018427387900 := by simp only [hgt] at hm hn; omega
  obtain ⟨i, hi⟩ : ∃ i, hgt d = i := ⟨_, rfl⟩
  obtain ⟨j, hj⟩ : ∃ j, hgt c = j := ⟨_, rfl⟩
  rw [hi] at hD
  rw [hj] at hC
  have e2 : ¬ ((j : Int) < i) := by omega
  obtain ⟨hl1, hl2⟩ := hlt
  have K := Below.refl w.heap.size w
  clear hb ib hc hd ic id k1 k2 hm hn hi hj hs hcd hv hx hx0
  go_enter Try.func54, Try.ntmps54
  go_wp2_with (first
    | (go_at_call 71; with_reducible refine (hA _ K).mono ?_; clear hA; rintro e w1 ⟨rfl, hb1⟩; replace K := K.trans (hb1.mono K.size); clear hb1)
    | (go_at_call 71; with_reducible refine (hB _ K).mono ?_; clear hB; rintro e w1 ⟨rfl, hb1⟩; replace K := K.trans (hb1.mono K.size); clear hb1; have f3 := (K.cell (p := ⟨g, 3, none⟩) hg).trans g3; have hg2 := Nat.lt_of_lt_of_le hg K.size))
  apply rel.region_tail (C := fun w' => Below w.heap.size w w') (X := fun w w' => Below w.heap.size w w') 7 (by kernel_rfl) (by kernel_rfl) (by kernel_rfl) (by kernel_rfl) (K.drew)
  (apply rel.walk_val; (focus (intro wq hq hf; go_wp2; refine ⟨hq, Below.refl _ _, ?_, rfl⟩; (show rel.slot _ _ = _; simp only [rel.slot_lit, List.getD_cons_succ, List.getD_cons_zero]; (first | done | exact rfl)))); (simp only [rel.put_lit, List.set_cons_succ, List.set_cons_zero]))
  (apply rel.walk_val; (focus (intro wq hq hf; go_wp2_with (go_at_call 71; refine (hD _ hq).mono ?_; rintro e w'' ⟨rfl, hb⟩); refine ⟨hq.trans (hb.mono hq.size), hb, ?_, rfl⟩; (show rel.slot _ _ = _; simp only [rel.slot_lit, List.getD_cons_succ, List.getD_cons_zero]; (first | done | exact rfl)))); (simp only [rel.put_lit, List.set_cons_succ, List.set_cons_zero]))
  (apply rel.walk_val; (focus (intro wq hq hf; go_wp2; refine ⟨hq, Below.refl _ _, ?_, rfl⟩; (show rel.slot _ _ = _; simp only [rel.slot_lit, List.getD_cons_succ, List.getD_cons_zero]; (first | done | exact rfl)))); (simp only [rel.put_lit, List.set_cons_succ, List.set_cons_zero]))
  (apply rel.walk_val; (focus (intro wq hq hf; go_wp2; refine ⟨hq, Below.refl _ _, ?_, rfl⟩; (show rel.slot _ _ = _; simp only [rel.slot_lit, List.getD_cons_succ, List.getD_cons_zero]; (first | done | exact rfl)))); (simp only [rel.put_lit, List.set_cons_succ, List.set_cons_zero]))
  (apply rel.walk_val; (focus (intro wq hq hf; go_wp2; refine ⟨hq, Below.refl _ _, ?_, rfl⟩; (show rel.slot _ _ = _; simp only [rel.slot_lit, List.getD_cons_succ, List.getD_cons_zero]; (first | done | exact rfl)))); (simp only [rel.put_lit, List.set_cons_succ, List.set_cons_zero]))
  ((apply rel.walk_val; (focus (intro wq hq hf; (have d0 := (hq.cell (p := ⟨g, 2, none⟩) hg).trans g2); go_wp2; refine ⟨hq, Below.refl _ _, ?_, rfl⟩; (show rel.slot _ _ = _; simp only [rel.slot_lit, List.getD_cons_succ, List.getD_cons_zero]; (first | done | exact rfl)))); (simp only [rel.put_lit, List.set_cons_succ, List.set_cons_zero])))
  (apply rel.walk_val; (focus (intro wq hq hf; go_wp2_with (go_at_call 71; refine (hC _ hq).mono ?_; rintro e w'' ⟨rfl, hb⟩); refine ⟨hq.trans (hb.mono hq.size), hb, ?_, rfl⟩; (show rel.slot _ _ = _; simp only [rel.slot_lit, List.getD_cons_succ, List.getD_cons_zero]; (first | done | exact rfl)))); (simp only [rel.put_lit, List.set_cons_succ, List.set_cons_zero]))
  refine rel.walk_nil ?_
  intro w8 K8 hF
  clear hF
  simp only [List.drop_succ_cons, List.drop_zero]
  go_wp2_with fail
  apply rel.region_tail (C := fun w' => Below w.heap.size w w') (X := fun w w' => Below w.heap.size w w') 16 (by kernel_rfl) (by kernel_rfl) (by kernel_rfl) (by kernel_rfl) (K8.drew)
  (apply rel.walk_val; (focus (intro wq hq hf; go_wp2; refine ⟨hq, Below.refl _ _, ?_, rfl⟩; (show rel.slot _ _ = _; simp only [rel.slot_lit, List.getD_cons_succ, List.getD_cons_zero]; (first | done | exact rfl)))); (simp only [rel.put_lit, List.set_cons_succ, List.set_cons_zero]))
  (apply rel.walk_val; (focus (intro wq hq hf; go_wp2; refine ⟨hq, Below.refl _ _, ?_, rfl⟩; (show rel.slot _ _ = _; simp only [rel.slot_lit, List.getD_cons_succ, List.getD_cons_zero]; (first | done | exact rfl)))); (simp only [rel.put_lit, List.set_cons_succ, List.set_cons_zero]))
  (apply rel.walk_val; (focus (intro wq hq hf; go_wp2; refine ⟨hq, Below.refl _ _, ?_, rfl⟩; (show rel.slot _ _ = _; simp only [rel.slot_lit, List.getD_cons_succ, List.getD_cons_zero]; (first | done | exact rfl)))); (simp only [rel.put_lit, List.set_cons_succ, List.set_cons_zero]))
  ((apply rel.walk_val; (focus (intro wq hq hf; (have d0 := (hq.cell (p := ⟨g, 0, none⟩) hg).trans g0); go_wp2; refine ⟨hq, Below.refl _ _, ?_, rfl⟩; (show rel.slot _ _ = _; simp only [rel.slot_lit, List.getD_cons_succ, List.getD_cons_zero]; (first | done | exact rfl)))); (simp only [rel.put_lit, List.set_cons_succ, List.set_cons_zero])))
  (apply rel.walk_val; (focus (intro wq hq hf; go_wp2; refine ⟨hq, Below.refl _ _, ?_, rfl⟩; (show rel.slot _ _ = _; simp only [rel.slot_lit, List.getD_cons_succ, List.getD_cons_zero]; (first | done | exact rfl)))); (simp only [rel.put_lit, List.set_cons_succ, List.set_cons_zero]))
  (apply rel.walk_val; (focus (intro wq hq hf; go_wp2; refine ⟨hq, Below.refl _ _, ?_, rfl⟩; (show rel.slot _ _ = _; simp only [rel.slot_lit, List.getD_cons_succ, List.getD_cons_zero]; (first | done | exact rfl)))); (simp only [rel.put_lit, List.set_cons_succ, List.set_cons_zero]))
  (apply rel.walk_val; (focus (intro wq hq hf; go_wp2; refine ⟨hq, Below.refl _ _, ?_, rfl⟩; (show rel.slot _ _ = _; simp only [rel.slot_lit, List.getD_cons_succ, List.getD_cons_zero]; (first | done | exact rfl)))); (simp only [rel.put_lit, List.set_cons_succ, List.set_cons_zero]))
  ((apply rel.walk_val; (focus (intro wq hq hf; (have d0 := (hq.cell (p := ⟨g, 2, none⟩) hg).trans g2); go_wp2; refine ⟨hq, Below.refl _ _, ?_, rfl⟩; (show rel.slot _ _ = _; simp only [rel.slot_lit, List.getD_cons_succ, List.getD_cons_zero]; (first | done | exact rfl)))); (simp only [rel.put_lit, List.set_cons_succ, List.set_cons_zero])))
  (apply rel.walk_val; (focus (intro wq hq hf; go_wp2; refine ⟨hq, Below.refl _ _, ?_, rfl⟩; (show rel.slot _ _ = _; simp only [rel.slot_lit, List.getD_cons_succ, List.getD_cons_zero]; (first | done | exact rfl)))); (simp only [rel.put_lit, List.set_cons_succ, List.set_cons_zero]))
  (apply rel.walk_val; (focus (intro wq hq hf; go_wp2; refine ⟨hq, Below.refl _ _, ?_, rfl⟩; (show rel.slot _ _ = _; simp only [rel.slot_lit, List.getD_cons_succ, List.getD_cons_zero]; (first | done | exact rfl)))); (simp only [rel.put_lit, List.set_cons_succ, List.set_cons_zero]))
  (apply rel.walk_val; (focus (intro wq hq hf; go_wp2; refine ⟨hq, Below.refl _ _, ?_, rfl⟩; (show rel.slot _ _ = _; simp only [rel.slot_lit, List.getD_cons_succ, List.getD_cons_zero]; (first | done | exact rfl)))); (simp only [rel.put_lit, List.set_cons_succ, List.set_cons_zero]))
  (apply rel.walk_val; (focus (intro wq hq hf; go_wp2; refine ⟨hq, Below.refl _ _, ?_, rfl⟩; (show rel.slot _ _ = _; simp only [rel.slot_lit, List.getD_cons_succ, List.getD_cons_zero]; (first | done | exact rfl)))); (simp only [rel.put_lit, List.set_cons_succ, List.set_cons_zero]))
  ((apply rel.walk_val; (focus (intro wq hq hf; (have d0 := (hq.cell (p := ⟨g, 3, none⟩) hg).trans g3); go_wp2; refine ⟨hq, Below.refl _ _, ?_, rfl⟩; (show rel.slot _ _ = _; simp only [rel.slot_lit, List.getD_cons_succ, List.getD_cons_zero]; (first | done | exact rfl)))); (simp only [rel.put_lit, List.set_cons_succ, List.set_cons_zero])))
  (apply rel.walk_val; (focus (intro wq hq hf; go_wp2; refine ⟨hq, Below.refl _ _, ?_, rfl⟩; (show rel.slot _ _ = _; simp only [rel.slot_lit, List.getD_cons_succ, List.getD_cons_zero]; (first | done | exact rfl)))); (simp only [rel.put_lit, List.set_cons_succ, List.set_cons_zero]))
  (apply rel.walk_rel (fun u w' => sch.IsT w' u (mkn x d b)) ⟨_, rfl⟩ (fun u w1 w2 h1 h2 => h2.on h1); (focus (intro wq hq hf; go_wp2_with (go_at_call 72; with_reducible refine (o1 _ hq).mono ?_; rintro e w'' ⟨⟨u, rfl, hu⟩, hb⟩); refine ⟨hq.trans (hb.mono hq.size), hb, ?_, rfl⟩; (show sch.IsT _ (rel.slot _ _) _; simp only [rel.slot_lit, List.getD_cons_succ, List.getD_cons_zero]; exact hu))); (intro u wu _ hu; obtain ⟨pu, rfl, -⟩ := hu; (simp only [rel.put_lit, List.set_cons_succ, List.set_cons_zero])))
  (apply rel.walk_rel (fun u w' => sch.IsT w' u (mkn y c (mkn x d b))) ⟨_, rfl⟩ (fun u w1 w2 h1 h2 => h2.on h1); (focus (intro wq hq hf; go_wp2_with (go_at_call 72; with_reducible refine (o3 _ _ hq (hf.get 0 rfl rfl)).mono ?_; rintro e w'' ⟨⟨u, rfl, hu⟩, hb⟩); refine ⟨hq.trans (hb.mono hq.size), hb, ?_, rfl⟩; (show sch.IsT _ (rel.slot _ _) _; simp only [rel.slot_lit, List.getD_cons_succ, List.getD_cons_zero]; exact hu))); (intro u wu _ hu; obtain ⟨pz, rfl, -⟩ := hu; (simp only [rel.put_lit, List.set_cons_succ, List.set_cons_zero])))
  refine rel.walk_nil ?_
  intro w9 K9 hF
  have hu : IsT w9 (.pointer pz) _ := hF _ (List.mem_cons_self ..)
  clear hF
  simp only [List.drop_succ_cons, List.drop_zero]
  go_wp2
  go_ret
  exact ⟨⟨_, rfl, hdone.out _ _ hu⟩, K9⟩

set_option maxHeartbeats 8000000 in
theorem balanced_two {x y my z mz : Int} {c r s b : Tr} {p q : Option Addr} {w : World} (ha : IsT w (.pointer p) (.node y my c (.node z mz r s))) (hb : IsT w (.pointer q) b) (ia : Avl (.node y my c (.node z mz r s))) (ib : Avl b) (hx : hgt (.node y my c (.node z mz r s)) = hgt b + 2) (hcd : hgt c < hgt (.node z mz r s)) (hs : hgt (.node y my c (.node z mz r s)) + hgt b < 4611686018427387900) :
    Calls Try.prog 54 #[.int .i64 x, .pointer p, .pointer q] w fun e w' => (∃ u, e = .returned u ∧ IsG w' u (Bal x (.node y my c (.node z mz r s)) b)) ∧ Below w.heap.size w w' := by
  have hA := fun W (hW : Below w.heap.size w W) => height_any (ha.nod.grow hW hW.size) ia
  have hB := fun W (hW : Below w.heap.size w W) => height_any (hb.nod.grow hW hW.size) ib
  have hdone : Hid (∀ W u, IsT W u (mkn z (mkn y c r) (mkn x s b)) → IsG W u (Bal x (.node y my c (.node z mz r s)) b)) := Lib.hid fun W u h9 => h9.g (bal_two ia ib hx hcd)
  have hx0 := hx
  obtain ⟨_, he, g, pc, pd, rfl, hg, hv, hc, hd⟩ := ha
  cases he
  obtain ⟨-, k1, k2, ic, id⟩ := ia
  have g0 := hv.cell 0
  have g2 := hv.cell 2
  have g3 := hv.cell 3
  simp only [List.getElem?_cons_zero, List.getElem?_cons_succ] at g0 g2 g3
  have hC := fun W (hW : Below w.heap.size w W) => height_any (hc.grow hW hW.size) ic
  have hD := fun W (hW : Below w.heap.size w W) => height_any (hd.grow hW hW.size) id
  simp only [hgt] at hx k1 k2 hs hcd
  have hd0 := hd
  obtain ⟨h, pr, ps, rfl, hh, hv2, nr, ns⟩ := hd
  obtain ⟨-, k3, k4, ir, is_⟩ := id
  have h0_ := hv2.cell 0
  have h2 := hv2.cell 2
  have h3 := hv2.cell 3
  simp only [List.getElem?_cons_zero, List.getElem?_cons_succ] at h0_ h2 h3
  have o1 := fun W (hW : Below w.heap.size w W) => over_any (x := y) (w := W) ⟨_, rfl, hc.grow hW hW.size⟩ ⟨_, rfl, nr.grow hW hW.size⟩ ic ir (by omega)
  have o2 := fun W (hW : Below w.heap.size w W) => over_any (x := x) (w := W) ⟨_, rfl, ns.grow hW hW.size⟩ ⟨_, rfl, hb.nod.grow hW hW.size⟩ is_ ib (by omega)
  have o3 := fun W u v (hu : IsT W (.pointer u) (mkn y c r)) (hv : IsT W (.pointer v) (mkn x s b)) => over_any (x := z) (w := W) hu hv (mkn_avl ic ir (by omega) (by omega)) (mkn_avl is_ ib (by omega) (by omega)) (by rw [hgt_mkn, hgt_mkn]; omega)
  obtain ⟨m, hm⟩ : ∃ m, hgt (.node y my c (.node z mz r s)) = m := ⟨_, rfl⟩
  obtain ⟨n, hn⟩ : ∃ n, hgt b = n := ⟨_, rfl⟩
  rw [hm] at hA hx0
  rw [hn] at hB hx0
  have e1 : (m : Int) - n = 2 := by omega
  have hlt : m < 4611686018427387900 ∧ n < 4611686018427387900 := by simp only [hgt] at hm hn; omega
  obtain ⟨i, hi⟩ : ∃ i, hgt (.node z mz r s) = i := ⟨_, rfl⟩
  obtain ⟨j, hj⟩ : ∃ j, hgt c = j := ⟨_, rfl⟩
  rw [hi] at hD
  rw [hj] at hC
  have e2 : (j : Int) < i := by simp only [hgt] at hi; omega
  obtain ⟨hl1, hl2⟩ := hlt
  have K := Below.refl w.heap.size w
  clear hb ib hc ic k1 k2 hm hn hi hj hs hcd hv hx hx0 nr ns ir is_ k3 k4 hv2 hd0
  go_enter Try.func54, Try.ntmps54
  go_wp2_with (first
    | (go_at_call 71; with_reducible refine (hA _ K).mono ?_; clear hA; rintro e w1 ⟨rfl, hb1⟩; replace K := K.trans (hb1.mono K.size); clear hb1)
    | (go_at_call 71; with_reducible refine (hB _ K).mono ?_; clear hB; rintro e w1 ⟨rfl, hb1⟩; replace K := K.trans (hb1.mono K.size); clear hb1; have f3 := (K.cell (p := ⟨g, 3, none⟩) hg).trans g3; have hg2 := Nat.lt_of_lt_of_le hg K.size))
  apply rel.region_tail (C := fun w' => Below w.heap.size w w') (X := fun w w' => Below w.heap.size w w') 7 (by kernel_rfl) (by kernel_rfl) (by kernel_rfl) (by kernel_rfl) (K.drew)
  (apply rel.walk_val; (focus (intro wq hq hf; go_wp2; refine ⟨hq, Below.refl _ _, ?_, rfl⟩; (show rel.slot _ _ = _; simp only [rel.slot_lit, List.getD_cons_succ, List.getD_cons_zero]; (first | done | exact rfl)))); (simp only [rel.put_lit, List.set_cons_succ, List.set_cons_zero]))
  (apply rel.walk_val; (focus (intro wq hq hf; go_wp2_with (go_at_call 71; refine (hD _ hq).mono ?_; rintro e w'' ⟨rfl, hb⟩); refine ⟨hq.trans (hb.mono hq.size), hb, ?_, rfl⟩; (show rel.slot _ _ = _; simp only [rel.slot_lit, List.getD_cons_succ, List.getD_cons_zero]; (first | done | exact rfl)))); (simp only [rel.put_lit, List.set_cons_succ, List.set_cons_zero]))
  (apply rel.walk_val; (focus (intro wq hq hf; go_wp2; refine ⟨hq, Below.refl _ _, ?_, rfl⟩; (show rel.slot _ _ = _; simp only [rel.slot_lit, List.getD_cons_succ, List.getD_cons_zero]; (first | done | exact rfl)))); (simp only [rel.put_lit, List.set_cons_succ, List.set_cons_zero]))
  (apply rel.walk_val; (focus (intro wq hq hf; go_wp2; refine ⟨hq, Below.refl _ _, ?_, rfl⟩; (show rel.slot _ _ = _; simp only [rel.slot_lit, List.getD_cons_succ, List.getD_cons_zero]; (first | done | exact rfl)))); (simp only [rel.put_lit, List.set_cons_succ, List.set_cons_zero]))
  (apply rel.walk_val; (focus (intro wq hq hf; go_wp2; refine ⟨hq, Below.refl _ _, ?_, rfl⟩; (show rel.slot _ _ = _; simp only [rel.slot_lit, List.getD_cons_succ, List.getD_cons_zero]; (first | done | exact rfl)))); (simp only [rel.put_lit, List.set_cons_succ, List.set_cons_zero]))
  ((apply rel.walk_val; (focus (intro wq hq hf; (have d0 := (hq.cell (p := ⟨g, 2, none⟩) hg).trans g2); go_wp2; refine ⟨hq, Below.refl _ _, ?_, rfl⟩; (show rel.slot _ _ = _; simp only [rel.slot_lit, List.getD_cons_succ, List.getD_cons_zero]; (first | done | exact rfl)))); (simp only [rel.put_lit, List.set_cons_succ, List.set_cons_zero])))
  (apply rel.walk_val; (focus (intro wq hq hf; go_wp2_with (go_at_call 71; refine (hC _ hq).mono ?_; rintro e w'' ⟨rfl, hb⟩); refine ⟨hq.trans (hb.mono hq.size), hb, ?_, rfl⟩; (show rel.slot _ _ = _; simp only [rel.slot_lit, List.getD_cons_succ, List.getD_cons_zero]; (first | done | exact rfl)))); (simp only [rel.put_lit, List.set_cons_succ, List.set_cons_zero]))
  refine rel.walk_nil ?_
  intro w8 K8 hF
  clear hF
  simp only [List.drop_succ_cons, List.drop_zero]
  go_wp2_with fail
  apply rel.region_tail (C := fun w' => Below w.heap.size w w') (X := fun w w' => Below w.heap.size w w') 25 (by kernel_rfl) (by kernel_rfl) (by kernel_rfl) (by kernel_rfl) (K8.drew)
  (apply rel.walk_val; (focus (intro wq hq hf; go_wp2; refine ⟨hq, Below.refl _ _, ?_, rfl⟩; (show rel.slot _ _ = _; simp only [rel.slot_lit, List.getD_cons_succ, List.getD_cons_zero]; (first | done | exact rfl)))); (simp only [rel.put_lit, List.set_cons_succ, List.set_cons_zero]))
  (apply rel.walk_val; (focus (intro wq hq hf; go_wp2; refine ⟨hq, Below.refl _ _, ?_, rfl⟩; (show rel.slot _ _ = _; simp only [rel.slot_lit, List.getD_cons_succ, List.getD_cons_zero]; (first | done | exact rfl)))); (simp only [rel.put_lit, List.set_cons_succ, List.set_cons_zero]))
  (apply rel.walk_val; (focus (intro wq hq hf; go_wp2; refine ⟨hq, Below.refl _ _, ?_, rfl⟩; (show rel.slot _ _ = _; simp only [rel.slot_lit, List.getD_cons_succ, List.getD_cons_zero]; (first | done | exact rfl)))); (simp only [rel.put_lit, List.set_cons_succ, List.set_cons_zero]))
  ((apply rel.walk_val; (focus (intro wq hq hf; (have d0 := (hq.cell (p := ⟨h, 0, none⟩) hh).trans h0_); go_wp2; refine ⟨hq, Below.refl _ _, ?_, rfl⟩; (show rel.slot _ _ = _; simp only [rel.slot_lit, List.getD_cons_succ, List.getD_cons_zero]; (first | done | exact rfl)))); (simp only [rel.put_lit, List.set_cons_succ, List.set_cons_zero])))
  (apply rel.walk_val; (focus (intro wq hq hf; go_wp2; refine ⟨hq, Below.refl _ _, ?_, rfl⟩; (show rel.slot _ _ = _; simp only [rel.slot_lit, List.getD_cons_succ, List.getD_cons_zero]; (first | done | exact rfl)))); (simp only [rel.put_lit, List.set_cons_succ, List.set_cons_zero]))
  (apply rel.walk_val; (focus (intro wq hq hf; go_wp2; refine ⟨hq, Below.refl _ _, ?_, rfl⟩; (show rel.slot _ _ = _; simp only [rel.slot_lit, List.getD_cons_succ, List.getD_cons_zero]; (first | done | exact rfl)))); (simp only [rel.put_lit, List.set_cons_succ, List.set_cons_zero]))
  (apply rel.walk_val; (focus (intro wq hq hf; go_wp2; refine ⟨hq, Below.refl _ _, ?_, rfl⟩; (show rel.slot _ _ = _; simp only [rel.slot_lit, List.getD_cons_succ, List.getD_cons_zero]; (first | done | exact rfl)))); (simp only [rel.put_lit, List.set_cons_succ, List.set_cons_zero]))
  ((apply rel.walk_val; (focus (intro wq hq hf; (have d0 := (hq.cell (p := ⟨g, 0, none⟩) hg).trans g0); go_wp2; refine ⟨hq, Below.refl _ _, ?_, rfl⟩; (show rel.slot _ _ = _; simp only [rel.slot_lit, List.getD_cons_succ, List.getD_cons_zero]; (first | done | exact rfl)))); (simp only [rel.put_lit, List.set_cons_succ, List.set_cons_zero])))
  (apply rel.walk_val; (focus (intro wq hq hf; go_wp2; refine ⟨hq, Below.refl _ _, ?_, rfl⟩; (show rel.slot _ _ = _; simp only [rel.slot_lit, List.getD_cons_succ, List.getD_cons_zero]; (first | done | exact rfl)))); (simp only [rel.put_lit, List.set_cons_succ, List.set_cons_zero]))
  (apply rel.walk_val; (focus (intro wq hq hf; go_wp2; refine ⟨hq, Below.refl _ _, ?_, rfl⟩; (show rel.slot _ _ = _; simp only [rel.slot_lit, List.getD_cons_succ, List.getD_cons_zero]; (first | done | exact rfl)))); (simp only [rel.put_lit, List.set_cons_succ, List.set_cons_zero]))
  (apply rel.walk_val; (focus (intro wq hq hf; go_wp2; refine ⟨hq, Below.refl _ _, ?_, rfl⟩; (show rel.slot _ _ = _; simp only [rel.slot_lit, List.getD_cons_succ, List.getD_cons_zero]; (first | done | exact rfl)))); (simp only [rel.put_lit, List.set_cons_succ, List.set_cons_zero]))
  ((apply rel.walk_val; (focus (intro wq hq hf; (have d0 := (hq.cell (p := ⟨g, 2, none⟩) hg).trans g2); go_wp2; refine ⟨hq, Below.refl _ _, ?_, rfl⟩; (show rel.slot _ _ = _; simp only [rel.slot_lit, List.getD_cons_succ, List.getD_cons_zero]; (first | done | exact rfl)))); (simp only [rel.put_lit, List.set_cons_succ, List.set_cons_zero])))
  (apply rel.walk_val; (focus (intro wq hq hf; go_wp2; refine ⟨hq, Below.refl _ _, ?_, rfl⟩; (show rel.slot _ _ = _; simp only [rel.slot_lit, List.getD_cons_succ, List.getD_cons_zero]; (first | done | exact rfl)))); (simp only [rel.put_lit, List.set_cons_succ, List.set_cons_zero]))
  (apply rel.walk_val; (focus (intro wq hq hf; go_wp2; refine ⟨hq, Below.refl _ _, ?_, rfl⟩; (show rel.slot _ _ = _; simp only [rel.slot_lit, List.getD_cons_succ, List.getD_cons_zero]; (first | done | exact rfl)))); (simp only [rel.put_lit, List.set_cons_succ, List.set_cons_zero]))
  (apply rel.walk_val; (focus (intro wq hq hf; go_wp2; refine ⟨hq, Below.refl _ _, ?_, rfl⟩; (show rel.slot _ _ = _; simp only [rel.slot_lit, List.getD_cons_succ, List.getD_cons_zero]; (first | done | exact rfl)))); (simp only [rel.put_lit, List.set_cons_succ, List.set_cons_zero]))
  ((apply rel.walk_val; (focus (intro wq hq hf; (have d0 := (hq.cell (p := ⟨h, 2, none⟩) hh).trans h2); go_wp2; refine ⟨hq, Below.refl _ _, ?_, rfl⟩; (show rel.slot _ _ = _; simp only [rel.slot_lit, List.getD_cons_succ, List.getD_cons_zero]; (first | done | exact rfl)))); (simp only [rel.put_lit, List.set_cons_succ, List.set_cons_zero])))
  (apply rel.walk_rel (fun u w' => sch.IsT w' u (mkn y c r)) ⟨_, rfl⟩ (fun u w1 w2 h1 h2 => h2.on h1); (focus (intro wq hq hf; go_wp2_with (go_at_call 72; with_reducible refine (o1 _ hq).mono ?_; rintro e w'' ⟨⟨u, rfl, hu⟩, hb⟩); refine ⟨hq.trans (hb.mono hq.size), hb, ?_, rfl⟩; (show sch.IsT _ (rel.slot _ _) _; simp only [rel.slot_lit, List.getD_cons_succ, List.getD_cons_zero]; exact hu))); (intro u wu _ hu; obtain ⟨pu, rfl, -⟩ := hu; (simp only [rel.put_lit, List.set_cons_succ, List.set_cons_zero])))
  (apply rel.walk_val; (focus (intro wq hq hf; go_wp2; refine ⟨hq, Below.refl _ _, ?_, rfl⟩; (show rel.slot _ _ = _; simp only [rel.slot_lit, List.getD_cons_succ, List.getD_cons_zero]; (first | done | exact rfl)))); (simp only [rel.put_lit, List.set_cons_succ, List.set_cons_zero]))
  (apply rel.walk_val; (focus (intro wq hq hf; go_wp2; refine ⟨hq, Below.refl _ _, ?_, rfl⟩; (show rel.slot _ _ = _; simp only [rel.slot_lit, List.getD_cons_succ, List.getD_cons_zero]; (first | done | exact rfl)))); (simp only [rel.put_lit, List.set_cons_succ, List.set_cons_zero]))
  (apply rel.walk_val; (focus (intro wq hq hf; go_wp2; refine ⟨hq, Below.refl _ _, ?_, rfl⟩; (show rel.slot _ _ = _; simp only [rel.slot_lit, List.getD_cons_succ, List.getD_cons_zero]; (first | done | exact rfl)))); (simp only [rel.put_lit, List.set_cons_succ, List.set_cons_zero]))
  (apply rel.walk_val; (focus (intro wq hq hf; go_wp2; refine ⟨hq, Below.refl _ _, ?_, rfl⟩; (show rel.slot _ _ = _; simp only [rel.slot_lit, List.getD_cons_succ, List.getD_cons_zero]; (first | done | exact rfl)))); (simp only [rel.put_lit, List.set_cons_succ, List.set_cons_zero]))
  ((apply rel.walk_val; (focus (intro wq hq hf; (have d0 := (hq.cell (p := ⟨h, 3, none⟩) hh).trans h3); go_wp2; refine ⟨hq, Below.refl _ _, ?_, rfl⟩; (show rel.slot _ _ = _; simp only [rel.slot_lit, List.getD_cons_succ, List.getD_cons_zero]; (first | done | exact rfl)))); (simp only [rel.put_lit, List.set_cons_succ, List.set_cons_zero])))
  (apply rel.walk_val; (focus (intro wq hq hf; go_wp2; refine ⟨hq, Below.refl _ _, ?_, rfl⟩; (show rel.slot _ _ = _; simp only [rel.slot_lit, List.getD_cons_succ, List.getD_cons_zero]; (first | done | exact rfl)))); (simp only [rel.put_lit, List.set_cons_succ, List.set_cons_zero]))
  (apply rel.walk_rel (fun u w' => sch.IsT w' u (mkn x s b)) ⟨_, rfl⟩ (fun u w1 w2 h1 h2 => h2.on h1); (focus (intro wq hq hf; go_wp2_with (go_at_call 72; with_reducible refine (o2 _ hq).mono ?_; rintro e w'' ⟨⟨u, rfl, hu⟩, hb⟩); refine ⟨hq.trans (hb.mono hq.size), hb, ?_, rfl⟩; (show sch.IsT _ (rel.slot _ _) _; simp only [rel.slot_lit, List.getD_cons_succ, List.getD_cons_zero]; exact hu))); (intro u wu _ hu; obtain ⟨pt, rfl, -⟩ := hu; (simp only [rel.put_lit, List.set_cons_succ, List.set_cons_zero])))
  (apply rel.walk_rel (fun u w' => sch.IsT w' u (mkn z (mkn y c r) (mkn x s b))) ⟨_, rfl⟩ (fun u w1 w2 h1 h2 => h2.on h1); (focus (intro wq hq hf; go_wp2_with (go_at_call 72; with_reducible refine (o3 _ _ _ (hf.get 1 rfl rfl) (hf.get 0 rfl rfl)).mono ?_; rintro e w'' ⟨⟨u, rfl, hu⟩, hb⟩); refine ⟨hq.trans (hb.mono hq.size), hb, ?_, rfl⟩; (show sch.IsT _ (rel.slot _ _) _; simp only [rel.slot_lit, List.getD_cons_succ, List.getD_cons_zero]; exact hu))); (intro u wu _ hu; obtain ⟨pz, rfl, -⟩ := hu; (simp only [rel.put_lit, List.set_cons_succ, List.set_cons_zero])))
  refine rel.walk_nil ?_
  intro w9 K9 hF
  have hu : IsT w9 (.pointer pz) _ := hF _ (List.mem_cons_self ..)
  clear hF
  simp only [List.drop_succ_cons, List.drop_zero]
  go_wp2
  go_ret
  exact ⟨⟨_, rfl, hdone.out _ _ hu⟩, K9⟩

set_option maxHeartbeats 8000000 in
theorem balanced_three {x y my : Int} {c d a : Tr} {p q : Option Addr} {w : World} (ha : IsT w (.pointer p) a) (hb : IsT w (.pointer q) (.node y my c d)) (ia : Avl a) (ib : Avl (.node y my c d)) (hx : hgt (.node y my c d) = hgt a + 2) (hcd : hgt c ≤ hgt d) (hs : hgt a + hgt (.node y my c d) < 4611686018427387900) :
    Calls Try.prog 54 #[.int .i64 x, .pointer p, .pointer q] w fun e w' => (∃ u, e = .returned u ∧ IsG w' u (Bal x a (.node y my c d))) ∧ Below w.heap.size w w' := by
  have hA := fun W (hW : Below w.heap.size w W) => height_any (ha.nod.grow hW hW.size) ia
  have hB := fun W (hW : Below w.heap.size w W) => height_any (hb.nod.grow hW hW.size) ib
  have hdone : Hid (∀ W u, IsT W u (mkn y (mkn x a c) d) → IsG W u (Bal x a (.node y my c d))) := Lib.hid fun W u h9 => h9.g (bal_three ia ib hx hcd)
  have hx0 := hx
  obtain ⟨_, he, g, pc, pd, rfl, hg, hv, hc, hd⟩ := hb
  cases he
  obtain ⟨-, k1, k2, ic, id⟩ := ib
  have g0 := hv.cell 0
  have g2 := hv.cell 2
  have g3 := hv.cell 3
  simp only [List.getElem?_cons_zero, List.getElem?_cons_succ] at g0 g2 g3
  have hC := fun W (hW : Below w.heap.size w W) => height_any (hc.grow hW hW.size) ic
  have hD := fun W (hW : Below w.heap.size w W) => height_any (hd.grow hW hW.size) id
  simp only [hgt] at hx k1 k2 hs hcd
  have o1 := fun W (hW : Below w.heap.size w W) => over_any (x := x) (w := W) ⟨_, rfl, ha.nod.grow hW hW.size⟩ ⟨_, rfl, hc.grow hW hW.size⟩ ia ic (by omega)
  have o3 := fun W v (hW : Below w.heap.size w W) (hv : IsT W (.pointer v) (mkn x a c)) => over_any (x := y) (w := W) hv ⟨_, rfl, hd.grow hW hW.size⟩ (mkn_avl ia ic (by omega) (by omega)) id (by rw [hgt_mkn]; omega)
  obtain ⟨m, hm⟩ : ∃ m, hgt a = m := ⟨_, rfl⟩
  obtain ⟨n, hn⟩ : ∃ n, hgt (.node y my c d) = n := ⟨_, rfl⟩
  rw [hm] at hA hx0
  rw [hn] at hB hx0
  have e1 : (m : Int) - n = -2 := by omega
  have hlt : m < 4611686018427387900 ∧ n < 4611686018427387900 := by simp only [hgt] at hm hn; omega
  obtain ⟨i, hi⟩ : ∃ i, hgt c = i := ⟨_, rfl⟩
  obtain ⟨j, hj⟩ : ∃ j, hgt d = j := ⟨_, rfl⟩
  rw [hi] at hC
  rw [hj] at hD
  have e2 : ¬ ((j : Int) < i) := by omega
  obtain ⟨hl1, hl2⟩ := hlt
  have K := Below.refl w.heap.size w
  clear ha ia hc hd ic id k1 k2 hm hn hi hj hs hcd hv hx hx0
  go_enter Try.func54, Try.ntmps54
  go_wp2_with (first
    | (go_at_call 71; with_reducible refine (hA _ K).mono ?_; clear hA; rintro e w1 ⟨rfl, hb1⟩; replace K := K.trans (hb1.mono K.size); clear hb1)
    | (go_at_call 71; with_reducible refine (hB _ K).mono ?_; clear hB; rintro e w1 ⟨rfl, hb1⟩; replace K := K.trans (hb1.mono K.size); clear hb1; have f2 := (K.cell (p := ⟨g, 2, none⟩) hg).trans g2; have hg2 := Nat.lt_of_lt_of_le hg K.size))
  apply rel.region_tail (C := fun w' => Below w.heap.size w w') (X := fun w w' => Below w.heap.size w w') 7 (by kernel_rfl) (by kernel_rfl) (by kernel_rfl) (by kernel_rfl) (K.drew)
  (apply rel.walk_val; (focus (intro wq hq hf; go_wp2; refine ⟨hq, Below.refl _ _, ?_, rfl⟩; (show rel.slot _ _ = _; simp only [rel.slot_lit, List.getD_cons_succ, List.getD_cons_zero]; (first | done | exact rfl)))); (simp only [rel.put_lit, List.set_cons_succ, List.set_cons_zero]))
  (apply rel.walk_val; (focus (intro wq hq hf; go_wp2_with (go_at_call 71; refine (hC _ hq).mono ?_; rintro e w'' ⟨rfl, hb⟩); refine ⟨hq.trans (hb.mono hq.size), hb, ?_, rfl⟩; (show rel.slot _ _ = _; simp only [rel.slot_lit, List.getD_cons_succ, List.getD_cons_zero]; (first | done | exact rfl)))); (simp only [rel.put_lit, List.set_cons_succ, List.set_cons_zero]))
  (apply rel.walk_val; (focus (intro wq hq hf; go_wp2; refine ⟨hq, Below.refl _ _, ?_, rfl⟩; (show rel.slot _ _ = _; simp only [rel.slot_lit, List.getD_cons_succ, List.getD_cons_zero]; (first | done | exact rfl)))); (simp only [rel.put_lit, List.set_cons_succ, List.set_cons_zero]))
  (apply rel.walk_val; (focus (intro wq hq hf; go_wp2; refine ⟨hq, Below.refl _ _, ?_, rfl⟩; (show rel.slot _ _ = _; simp only [rel.slot_lit, List.getD_cons_succ, List.getD_cons_zero]; (first | done | exact rfl)))); (simp only [rel.put_lit, List.set_cons_succ, List.set_cons_zero]))
  (apply rel.walk_val; (focus (intro wq hq hf; go_wp2; refine ⟨hq, Below.refl _ _, ?_, rfl⟩; (show rel.slot _ _ = _; simp only [rel.slot_lit, List.getD_cons_succ, List.getD_cons_zero]; (first | done | exact rfl)))); (simp only [rel.put_lit, List.set_cons_succ, List.set_cons_zero]))
  ((apply rel.walk_val; (focus (intro wq hq hf; (have d0 := (hq.cell (p := ⟨g, 3, none⟩) hg).trans g3); go_wp2; refine ⟨hq, Below.refl _ _, ?_, rfl⟩; (show rel.slot _ _ = _; simp only [rel.slot_lit, List.getD_cons_succ, List.getD_cons_zero]; (first | done | exact rfl)))); (simp only [rel.put_lit, List.set_cons_succ, List.set_cons_zero])))
  (apply rel.walk_val; (focus (intro wq hq hf; go_wp2_with (go_at_call 71; refine (hD _ hq).mono ?_; rintro e w'' ⟨rfl, hb⟩); refine ⟨hq.trans (hb.mono hq.size), hb, ?_, rfl⟩; (show rel.slot _ _ = _; simp only [rel.slot_lit, List.getD_cons_succ, List.getD_cons_zero]; (first | done | exact rfl)))); (simp only [rel.put_lit, List.set_cons_succ, List.set_cons_zero]))
  refine rel.walk_nil ?_
  intro w8 K8 hF
  clear hF
  simp only [List.drop_succ_cons, List.drop_zero]
  go_wp2_with fail
  apply rel.region_tail (C := fun w' => Below w.heap.size w w') (X := fun w w' => Below w.heap.size w w') 16 (by kernel_rfl) (by kernel_rfl) (by kernel_rfl) (by kernel_rfl) (K8.drew)
  (apply rel.walk_val; (focus (intro wq hq hf; go_wp2; refine ⟨hq, Below.refl _ _, ?_, rfl⟩; (show rel.slot _ _ = _; simp only [rel.slot_lit, List.getD_cons_succ, List.getD_cons_zero]; (first | done | exact rfl)))); (simp only [rel.put_lit, List.set_cons_succ, List.set_cons_zero]))
  (apply rel.walk_val; (focus (intro wq hq hf; go_wp2; refine ⟨hq, Below.refl _ _, ?_, rfl⟩; (show rel.slot _ _ = _; simp only [rel.slot_lit, List.getD_cons_succ, List.getD_cons_zero]; (first | done | exact rfl)))); (simp only [rel.put_lit, List.set_cons_succ, List.set_cons_zero]))
  (apply rel.walk_val; (focus (intro wq hq hf; go_wp2; refine ⟨hq, Below.refl _ _, ?_, rfl⟩; (show rel.slot _ _ = _; simp only [rel.slot_lit, List.getD_cons_succ, List.getD_cons_zero]; (first | done | exact rfl)))); (simp only [rel.put_lit, List.set_cons_succ, List.set_cons_zero]))
  ((apply rel.walk_val; (focus (intro wq hq hf; (have d0 := (hq.cell (p := ⟨g, 0, none⟩) hg).trans g0); go_wp2; refine ⟨hq, Below.refl _ _, ?_, rfl⟩; (show rel.slot _ _ = _; simp only [rel.slot_lit, List.getD_cons_succ, List.getD_cons_zero]; (first | done | exact rfl)))); (simp only [rel.put_lit, List.set_cons_succ, List.set_cons_zero])))
  (apply rel.walk_val; (focus (intro wq hq hf; go_wp2; refine ⟨hq, Below.refl _ _, ?_, rfl⟩; (show rel.slot _ _ = _; simp only [rel.slot_lit, List.getD_cons_succ, List.getD_cons_zero]; (first | done | exact rfl)))); (simp only [rel.put_lit, List.set_cons_succ, List.set_cons_zero]))
  (apply rel.walk_val; (focus (intro wq hq hf; go_wp2; refine ⟨hq, Below.refl _ _, ?_, rfl⟩; (show rel.slot _ _ = _; simp only [rel.slot_lit, List.getD_cons_succ, List.getD_cons_zero]; (first | done | exact rfl)))); (simp only [rel.put_lit, List.set_cons_succ, List.set_cons_zero]))
  (apply rel.walk_val; (focus (intro wq hq hf; go_wp2; refine ⟨hq, Below.refl _ _, ?_, rfl⟩; (show rel.slot _ _ = _; simp only [rel.slot_lit, List.getD_cons_succ, List.getD_cons_zero]; (first | done | exact rfl)))); (simp only [rel.put_lit, List.set_cons_succ, List.set_cons_zero]))
  (apply rel.walk_val; (focus (intro wq hq hf; go_wp2; refine ⟨hq, Below.refl _ _, ?_, rfl⟩; (show rel.slot _ _ = _; simp only [rel.slot_lit, List.getD_cons_succ, List.getD_cons_zero]; (first | done | exact rfl)))); (simp only [rel.put_lit, List.set_cons_succ, List.set_cons_zero]))
  (apply rel.walk_val; (focus (intro wq hq hf; go_wp2; refine ⟨hq, Below.refl _ _, ?_, rfl⟩; (show rel.slot _ _ = _; simp only [rel.slot_lit, List.getD_cons_succ, List.getD_cons_zero]; (first | done | exact rfl)))); (simp only [rel.put_lit, List.set_cons_succ, List.set_cons_zero]))
  ((apply rel.walk_val; (focus (intro wq hq hf; (have d0 := (hq.cell (p := ⟨g, 2, none⟩) hg).trans g2); go_wp2; refine ⟨hq, Below.refl _ _, ?_, rfl⟩; (show rel.slot _ _ = _; simp only [rel.slot_lit, List.getD_cons_succ, List.getD_cons_zero]; (first | done | exact rfl)))); (simp only [rel.put_lit, List.set_cons_succ, List.set_cons_zero])))
  (apply rel.walk_rel (fun u w' => sch.IsT w' u (mkn x a c)) ⟨_, rfl⟩ (fun u w1 w2 h1 h2 => h2.on h1); (focus (intro wq hq hf; go_wp2_with (go_at_call 72; with_reducible refine (o1 _ hq).mono ?_; rintro e w'' ⟨⟨u, rfl, hu⟩, hb⟩); refine ⟨hq.trans (hb.mono hq.size), hb, ?_, rfl⟩; (show sch.IsT _ (rel.slot _ _) _; simp only [rel.slot_lit, List.getD_cons_succ, List.getD_cons_zero]; exact hu))); (intro u wu _ hu; obtain ⟨pu, rfl, -⟩ := hu; (simp only [rel.put_lit, List.set_cons_succ, List.set_cons_zero])))
  (apply rel.walk_val; (focus (intro wq hq hf; go_wp2; refine ⟨hq, Below.refl _ _, ?_, rfl⟩; (show rel.slot _ _ = _; simp only [rel.slot_lit, List.getD_cons_succ, List.getD_cons_zero]; (first | done | exact rfl)))); (simp only [rel.put_lit, List.set_cons_succ, List.set_cons_zero]))
  (apply rel.walk_val; (focus (intro wq hq hf; go_wp2; refine ⟨hq, Below.refl _ _, ?_, rfl⟩; (show rel.slot _ _ = _; simp only [rel.slot_lit, List.getD_cons_succ, List.getD_cons_zero]; (first | done | exact rfl)))); (simp only [rel.put_lit, List.set_cons_succ, List.set_cons_zero]))
  (apply rel.walk_val; (focus (intro wq hq hf; go_wp2; refine ⟨hq, Below.refl _ _, ?_, rfl⟩; (show rel.slot _ _ = _; simp only [rel.slot_lit, List.getD_cons_succ, List.getD_cons_zero]; (first | done | exact rfl)))); (simp only [rel.put_lit, List.set_cons_succ, List.set_cons_zero]))
  ((apply rel.walk_val; (focus (intro wq hq hf; (have d0 := (hq.cell (p := ⟨g, 3, none⟩) hg).trans g3); go_wp2; refine ⟨hq, Below.refl _ _, ?_, rfl⟩; (show rel.slot _ _ = _; simp only [rel.slot_lit, List.getD_cons_succ, List.getD_cons_zero]; (first | done | exact rfl)))); (simp only [rel.put_lit, List.set_cons_succ, List.set_cons_zero])))
  (apply rel.walk_rel (fun u w' => sch.IsT w' u (mkn y (mkn x a c) d)) ⟨_, rfl⟩ (fun u w1 w2 h1 h2 => h2.on h1); (focus (intro wq hq hf; go_wp2_with (go_at_call 72; with_reducible refine (o3 _ _ hq (hf.get 0 rfl rfl)).mono ?_; rintro e w'' ⟨⟨u, rfl, hu⟩, hb⟩); refine ⟨hq.trans (hb.mono hq.size), hb, ?_, rfl⟩; (show sch.IsT _ (rel.slot _ _) _; simp only [rel.slot_lit, List.getD_cons_succ, List.getD_cons_zero]; exact hu))); (intro u wu _ hu; obtain ⟨pz, rfl, -⟩ := hu; (simp only [rel.put_lit, List.set_cons_succ, List.set_cons_zero])))
  refine rel.walk_nil ?_
  intro w9 K9 hF
  have hu : IsT w9 (.pointer pz) _ := hF _ (List.mem_cons_self ..)
  clear hF
  simp only [List.drop_succ_cons, List.drop_zero]
  go_wp2
  go_ret
  exact ⟨⟨_, rfl, hdone.out _ _ hu⟩, K9⟩

set_option maxHeartbeats 8000000 in
theorem balanced_four {x y my z mz : Int} {r s d a : Tr} {p q : Option Addr} {w : World} (ha : IsT w (.pointer p) a) (hb : IsT w (.pointer q) (.node y my (.node z mz r s) d)) (ia : Avl a) (ib : Avl (.node y my (.node z mz r s) d)) (hx : hgt (.node y my (.node z mz r s) d) = hgt a + 2) (hcd : hgt d < hgt (.node z mz r s)) (hs : hgt a + hgt (.node y my (.node z mz r s) d) < 4611686018427387900) :
    Calls Try.prog 54 #[.int .i64 x, .pointer p, .pointer q] w fun e w' => (∃ u, e = .returned u ∧ IsG w' u (Bal x a (.node y my (.node z mz r s) d))) ∧ Below w.heap.size w w' := by
  have hA := fun W (hW : Below w.heap.size w W) => height_any (ha.nod.grow hW hW.size) ia
  have hB := fun W (hW : Below w.heap.size w W) => height_any (hb.nod.grow hW hW.size) ib
  have hdone : Hid (∀ W u, IsT W u (mkn z (mkn x a r) (mkn y s d)) → IsG W u (Bal x a (.node y my (.node z mz r s) d))) := Lib.hid fun W u h9 => h9.g (bal_four ia ib hx hcd)
  have hx0 := hx
  obtain ⟨_, he, g, pc, pd, rfl, hg, hv, hc, hd⟩ := hb
  cases he
  obtain ⟨-, k1, k2, ic, id⟩ := ib
  have g0 := hv.cell 0
  have g2 := hv.cell 2
  have g3 := hv.cell 3
  simp only [List.getElem?_cons_zero, List.getElem?_cons_succ] at g0 g2 g3
  have hC := fun W (hW : Below w.heap.size w W) => height_any (hc.grow hW hW.size) ic
  have hD := fun W (hW : Below w.heap.size w W) => height_any (hd.grow hW hW.size) id
  simp only [hgt] at hx k1 k2 hs hcd
  have hc0 := hc
  obtain ⟨h, pr, ps, rfl, hh, hv2, nr, ns⟩ := hc
  obtain ⟨-, k3, k4, ir, is_⟩ := ic
  have h0_ := hv2.cell 0
  have h2 := hv2.cell 2
  have h3 := hv2.cell 3
  simp only [List.getElem?_cons_zero, List.getElem?_cons_succ] at h0_ h2 h3
  have o1 := fun W (hW : Below w.heap.size w W) => over_any (x := x) (w := W) ⟨_, rfl, ha.nod.grow hW hW.size⟩ ⟨_, rfl, nr.grow hW hW.size⟩ ia ir (by omega)
  have o2 := fun W (hW : Below w.heap.size w W) => over_any (x := y) (w := W) ⟨_, rfl, ns.grow hW hW.size⟩ ⟨_, rfl, hd.grow hW hW.size⟩ is_ id (by omega)
  have o3 := fun W u v (hu : IsT W (.pointer u) (mkn x a r)) (hv : IsT W (.pointer v) (mkn y s d)) => over_any (x := z) (w := W) hu hv (mkn_avl ia ir (by omega) (by omega)) (mkn_avl is_ id (by omega) (by omega)) (by rw [hgt_mkn, hgt_mkn]; omega)
  obtain ⟨m, hm⟩ : ∃ m, hgt a = m := ⟨_, rfl⟩
  obtain ⟨n, hn⟩ : ∃ n, hgt (.node y my (.node z mz r s) d) = n := ⟨_, rfl⟩
  rw [hm] at hA hx0
  rw [hn] at hB hx0
  have e1 : (m : Int) - n = -2 := by omega
  have hlt : m < 4611686018427387900 ∧ n < 4611686018427387900 := by simp only [hgt] at hm hn; omega
  obtain ⟨i, hi⟩ : ∃ i, hgt (.node z mz r s) = i := ⟨_, rfl⟩
  obtain ⟨j, hj⟩ : ∃ j, hgt d = j := ⟨_, rfl⟩
  rw [hi] at hC
  rw [hj] at hD
  have e2 : (j : Int) < i := by simp only [hgt] at hi; omega
  obtain ⟨hl1, hl2⟩ := hlt
  have K := Below.refl w.heap.size w
  clear ha ia hd id k1 k2 hm hn hi hj hs hcd hv hx hx0 nr ns ir is_ k3 k4 hv2 hc0
  go_enter Try.func54, Try.ntmps54
  go_wp2_with (first
    | (go_at_call 71; with_reducible refine (hA _ K).mono ?_; clear hA; rintro e w1 ⟨rfl, hb1⟩; replace K := K.trans (hb1.mono K.size); clear hb1)
    | (go_at_call 71; with_reducible refine (hB _ K).mono ?_; clear hB; rintro e w1 ⟨rfl, hb1⟩; replace K := K.trans (hb1.mono K.size); clear hb1; have f2 := (K.cell (p := ⟨g, 2, none⟩) hg).trans g2; have hg2 := Nat.lt_of_lt_of_le hg K.size))
  apply rel.region_tail (C := fun w' => Below w.heap.size w w') (X := fun w w' => Below w.heap.size w w') 7 (by kernel_rfl) (by kernel_rfl) (by kernel_rfl) (by kernel_rfl) (K.drew)
  (apply rel.walk_val; (focus (intro wq hq hf; go_wp2; refine ⟨hq, Below.refl _ _, ?_, rfl⟩; (show rel.slot _ _ = _; simp only [rel.slot_lit, List.getD_cons_succ, List.getD_cons_zero]; (first | done | exact rfl)))); (simp only [rel.put_lit, List.set_cons_succ, List.set_cons_zero]))
  (apply rel.walk_val; (focus (intro wq hq hf; go_wp2_with (go_at_call 71; refine (hC _ hq).mono ?_; rintro e w'' ⟨rfl, hb⟩); refine ⟨hq.trans (hb.mono hq.size), hb, ?_, rfl⟩; (show rel.slot _ _ = _; simp only [rel.slot_lit, List.getD_cons_succ, List.getD_cons_zero]; (first | done | exact rfl)))); (simp only [rel.put_lit, List.set_cons_succ, List.set_cons_zero]))
  (apply rel.walk_val; (focus (intro wq hq hf; go_wp2; refine ⟨hq, Below.refl _ _, ?_, rfl⟩; (show rel.slot _ _ = _; simp only [rel.slot_lit, List.getD_cons_succ, List.getD_cons_zero]; (first | done | exact rfl)))); (simp only [rel.put_lit, List.set_cons_succ, List.set_cons_zero]))
  (apply rel.walk_val; (focus (intro wq hq hf; go_wp2; refine ⟨hq, Below.refl _ _, ?_, rfl⟩; (show rel.slot _ _ = _; simp only [rel.slot_lit, List.getD_cons_succ, List.getD_cons_zero]; (first | done | exact rfl)))); (simp only [rel.put_lit, List.set_cons_succ, List.set_cons_zero]))
  (apply rel.walk_val; (focus (intro wq hq hf; go_wp2; refine ⟨hq, Below.refl _ _, ?_, rfl⟩; (show rel.slot _ _ = _; simp only [rel.slot_lit, List.getD_cons_succ, List.getD_cons_zero]; (first | done | exact rfl)))); (simp only [rel.put_lit, List.set_cons_succ, List.set_cons_zero]))
  ((apply rel.walk_val; (focus (intro wq hq hf; (have d0 := (hq.cell (p := ⟨g, 3, none⟩) hg).trans g3); go_wp2; refine ⟨hq, Below.refl _ _, ?_, rfl⟩; (show rel.slot _ _ = _; simp only [rel.slot_lit, List.getD_cons_succ, List.getD_cons_zero]; (first | done | exact rfl)))); (simp only [rel.put_lit, List.set_cons_succ, List.set_cons_zero])))
  (apply rel.walk_val; (focus (intro wq hq hf; go_wp2_with (go_at_call 71; refine (hD _ hq).mono ?_; rintro e w'' ⟨rfl, hb⟩); refine ⟨hq.trans (hb.mono hq.size), hb, ?_, rfl⟩; (show rel.slot _ _ = _; simp only [rel.slot_lit, List.getD_cons_succ, List.getD_cons_zero]; (first | done | exact rfl)))); (simp only [rel.put_lit, List.set_cons_succ, List.set_cons_zero]))
  refine rel.walk_nil ?_
  intro w8 K8 hF
  clear hF
  simp only [List.drop_succ_cons, List.drop_zero]
  go_wp2_with fail
  apply rel.region_tail (C := fun w' => Below w.heap.size w w') (X := fun w w' => Below w.heap.size w w') 25 (by kernel_rfl) (by kernel_rfl) (by kernel_rfl) (by kernel_rfl) (K8.drew)
  (apply rel.walk_val; (focus (intro wq hq hf; go_wp2; refine ⟨hq, Below.refl _ _, ?_, rfl⟩; (show rel.slot _ _ = _; simp only [rel.slot_lit, List.getD_cons_succ, List.getD_cons_zero]; (first | done | exact rfl)))); (simp only [rel.put_lit, List.set_cons_succ, List.set_cons_zero]))
  (apply rel.walk_val; (focus (intro wq hq hf; go_wp2; refine ⟨hq, Below.refl _ _, ?_, rfl⟩; (show rel.slot _ _ = _; simp only [rel.slot_lit, List.getD_cons_succ, List.getD_cons_zero]; (first | done | exact rfl)))); (simp only [rel.put_lit, List.set_cons_succ, List.set_cons_zero]))
  (apply rel.walk_val; (focus (intro wq hq hf; go_wp2; refine ⟨hq, Below.refl _ _, ?_, rfl⟩; (show rel.slot _ _ = _; simp only [rel.slot_lit, List.getD_cons_succ, List.getD_cons_zero]; (first | done | exact rfl)))); (simp only [rel.put_lit, List.set_cons_succ, List.set_cons_zero]))
  ((apply rel.walk_val; (focus (intro wq hq hf; (have d0 := (hq.cell (p := ⟨h, 0, none⟩) hh).trans h0_); go_wp2; refine ⟨hq, Below.refl _ _, ?_, rfl⟩; (show rel.slot _ _ = _; simp only [rel.slot_lit, List.getD_cons_succ, List.getD_cons_zero]; (first | done | exact rfl)))); (simp only [rel.put_lit, List.set_cons_succ, List.set_cons_zero])))
  (apply rel.walk_val; (focus (intro wq hq hf; go_wp2; refine ⟨hq, Below.refl _ _, ?_, rfl⟩; (show rel.slot _ _ = _; simp only [rel.slot_lit, List.getD_cons_succ, List.getD_cons_zero]; (first | done | exact rfl)))); (simp only [rel.put_lit, List.set_cons_succ, List.set_cons_zero]))
  (apply rel.walk_val; (focus (intro wq hq hf; go_wp2; refine ⟨hq, Below.refl _ _, ?_, rfl⟩; (show rel.slot _ _ = _; simp only [rel.slot_lit, List.getD_cons_succ, List.getD_cons_zero]; (first | done | exact rfl)))); (simp only [rel.put_lit, List.set_cons_succ, List.set_cons_zero]))
  (apply rel.walk_val; (focus (intro wq hq hf; go_wp2; refine ⟨hq, Below.refl _ _, ?_, rfl⟩; (show rel.slot _ _ = _; simp only [rel.slot_lit, List.getD_cons_succ, List.getD_cons_zero]; (first | done | exact rfl)))); (simp only [rel.put_lit, List.set_cons_succ, List.set_cons_zero]))
  (apply rel.walk_val; (focus (intro wq hq hf; go_wp2; refine ⟨hq, Below.refl _ _, ?_, rfl⟩; (show rel.slot _ _ = _; simp only [rel.slot_lit, List.getD_cons_succ, List.getD_cons_zero]; (first | done | exact rfl)))); (simp only [rel.put_lit, List.set_cons_succ, List.set_cons_zero]))
  (apply rel.walk_val; (focus (intro wq hq hf; go_wp2; refine ⟨hq, Below.refl _ _, ?_, rfl⟩; (show rel.slot _ _ = _; simp only [rel.slot_lit, List.getD_cons_succ, List.getD_cons_zero]; (first | done | exact rfl)))); (simp only [rel.put_lit, List.set_cons_succ, List.set_cons_zero]))
  ((apply rel.walk_val; (focus (intro wq hq hf; (have d0 := (hq.cell (p := ⟨h, 2, none⟩) hh).trans h2); go_wp2; refine ⟨hq, Below.refl _ _, ?_, rfl⟩; (show rel.slot _ _ = _; simp only [rel.slot_lit, List.getD_cons_succ, List.getD_cons_zero]; (first | done | exact rfl)))); (simp only [rel.put_lit, List.set_cons_succ, List.set_cons_zero])))
  (apply rel.walk_rel (fun u w' => sch.IsT w' u (mkn x a r)) ⟨_, rfl⟩ (fun u w1 w2 h1 h2 => h2.on h1); (focus (intro wq hq hf; go_wp2_with (go_at_call 72; with_reducible refine (o1 _ hq).mono ?_; rintro e w'' ⟨⟨u, rfl, hu⟩, hb⟩); refine ⟨hq.trans (hb.mono hq.size), hb, ?_, rfl⟩; (show sch.IsT _ (rel.slot _ _) _; simp only [rel.slot_lit, List.getD_cons_succ, List.getD_cons_zero]; exact hu))); (intro u wu _ hu; obtain ⟨pu, rfl, -⟩ := hu; (simp only [rel.put_lit, List.set_cons_succ, List.set_cons_zero])))
  (apply rel.walk_val; (focus (intro wq hq hf; go_wp2; refine ⟨hq, Below.refl _ _, ?_, rfl⟩; (show rel.slot _ _ = _; simp only [rel.slot_lit, List.getD_cons_succ, List.getD_cons_zero]; (first | done | exact rfl)))); (simp only [rel.put_lit, List.set_cons_succ, List.set_cons_zero]))
  (apply rel.walk_val; (focus (intro wq hq hf; go_wp2; refine ⟨hq, Below.refl _ _, ?_, rfl⟩; (show rel.slot _ _ = _; simp only [rel.slot_lit, List.getD_cons_succ, List.getD_cons_zero]; (first | done | exact rfl)))); (simp only [rel.put_lit, List.set_cons_succ, List.set_cons_zero]))
  (apply rel.walk_val; (focus (intro wq hq hf; go_wp2; refine ⟨hq, Below.refl _ _, ?_, rfl⟩; (show rel.slot _ _ = _; simp only [rel.slot_lit, List.getD_cons_succ, List.getD_cons_zero]; (first | done | exact rfl)))); (simp only [rel.put_lit, List.set_cons_succ, List.set_cons_zero]))
  ((apply rel.walk_val; (focus (intro wq hq hf; (have d0 := (hq.cell (p := ⟨g, 0, none⟩) hg).trans g0); go_wp2; refine ⟨hq, Below.refl _ _, ?_, rfl⟩; (show rel.slot _ _ = _; simp only [rel.slot_lit, List.getD_cons_succ, List.getD_cons_zero]; (first | done | exact rfl)))); (simp only [rel.put_lit, List.set_cons_succ, List.set_cons_zero])))
  (apply rel.walk_val; (focus (intro wq hq hf; go_wp2; refine ⟨hq, Below.refl _ _, ?_, rfl⟩; (show rel.slot _ _ = _; simp only [rel.slot_lit, List.getD_cons_succ, List.getD_cons_zero]; (first | done | exact rfl)))); (simp only [rel.put_lit, List.set_cons_succ, List.set_cons_zero]))
  (apply rel.walk_val; (focus (intro wq hq hf; go_wp2; refine ⟨hq, Below.refl _ _, ?_, rfl⟩; (show rel.slot _ _ = _; simp only [rel.slot_lit, List.getD_cons_succ, List.getD_cons_zero]; (first | done | exact rfl)))); (simp only [rel.put_lit, List.set_cons_succ, List.set_cons_zero]))
  (apply rel.walk_val; (focus (intro wq hq hf; go_wp2; refine ⟨hq, Below.refl _ _, ?_, rfl⟩; (show rel.slot _ _ = _; simp only [rel.slot_lit, List.getD_cons_succ, List.getD_cons_zero]; (first | done | exact rfl)))); (simp only [rel.put_lit, List.set_cons_succ, List.set_cons_zero]))
  ((apply rel.walk_val; (focus (intro wq hq hf; (have d0 := (hq.cell (p := ⟨h, 3, none⟩) hh).trans h3); go_wp2; refine ⟨hq, Below.refl _ _, ?_, rfl⟩; (show rel.slot _ _ = _; simp only [rel.slot_lit, List.getD_cons_succ, List.getD_cons_zero]; (first | done | exact rfl)))); (simp only [rel.put_lit, List.set_cons_succ, List.set_cons_zero])))
  (apply rel.walk_val; (focus (intro wq hq hf; go_wp2; refine ⟨hq, Below.refl _ _, ?_, rfl⟩; (show rel.slot _ _ = _; simp only [rel.slot_lit, List.getD_cons_succ, List.getD_cons_zero]; (first | done | exact rfl)))); (simp only [rel.put_lit, List.set_cons_succ, List.set_cons_zero]))
  (apply rel.walk_val; (focus (intro wq hq hf; go_wp2; refine ⟨hq, Below.refl _ _, ?_, rfl⟩; (show rel.slot _ _ = _; simp only [rel.slot_lit, List.getD_cons_succ, List.getD_cons_zero]; (first | done | exact rfl)))); (simp only [rel.put_lit, List.set_cons_succ, List.set_cons_zero]))
  (apply rel.walk_val; (focus (intro wq hq hf; go_wp2; refine ⟨hq, Below.refl _ _, ?_, rfl⟩; (show rel.slot _ _ = _; simp only [rel.slot_lit, List.getD_cons_succ, List.getD_cons_zero]; (first | done | exact rfl)))); (simp only [rel.put_lit, List.set_cons_succ, List.set_cons_zero]))
  ((apply rel.walk_val; (focus (intro wq hq hf; (have d0 := (hq.cell (p := ⟨g, 3, none⟩) hg).trans g3); go_wp2; refine ⟨hq, Below.refl _ _, ?_, rfl⟩; (show rel.slot _ _ = _; simp only [rel.slot_lit, List.getD_cons_succ, List.getD_cons_zero]; (first | done | exact rfl)))); (simp only [rel.put_lit, List.set_cons_succ, List.set_cons_zero])))
  (apply rel.walk_rel (fun u w' => sch.IsT w' u (mkn y s d)) ⟨_, rfl⟩ (fun u w1 w2 h1 h2 => h2.on h1); (focus (intro wq hq hf; go_wp2_with (go_at_call 72; with_reducible refine (o2 _ hq).mono ?_; rintro e w'' ⟨⟨u, rfl, hu⟩, hb⟩); refine ⟨hq.trans (hb.mono hq.size), hb, ?_, rfl⟩; (show sch.IsT _ (rel.slot _ _) _; simp only [rel.slot_lit, List.getD_cons_succ, List.getD_cons_zero]; exact hu))); (intro u wu _ hu; obtain ⟨pt, rfl, -⟩ := hu; (simp only [rel.put_lit, List.set_cons_succ, List.set_cons_zero])))
  (apply rel.walk_rel (fun u w' => sch.IsT w' u (mkn z (mkn x a r) (mkn y s d))) ⟨_, rfl⟩ (fun u w1 w2 h1 h2 => h2.on h1); (focus (intro wq hq hf; go_wp2_with (go_at_call 72; with_reducible refine (o3 _ _ _ (hf.get 1 rfl rfl) (hf.get 0 rfl rfl)).mono ?_; rintro e w'' ⟨⟨u, rfl, hu⟩, hb⟩); refine ⟨hq.trans (hb.mono hq.size), hb, ?_, rfl⟩; (show sch.IsT _ (rel.slot _ _) _; simp only [rel.slot_lit, List.getD_cons_succ, List.getD_cons_zero]; exact hu))); (intro u wu _ hu; obtain ⟨pz, rfl, -⟩ := hu; (simp only [rel.put_lit, List.set_cons_succ, List.set_cons_zero])))
  refine rel.walk_nil ?_
  intro w9 K9 hF
  have hu : IsT w9 (.pointer pz) _ := hF _ (List.mem_cons_self ..)
  clear hF
  simp only [List.drop_succ_cons, List.drop_zero]
  go_wp2
  go_ret
  exact ⟨⟨_, rfl, hdone.out _ _ hu⟩, K9⟩

end Go.Proofs.Ytlaflhnnddfkkaa.avl
