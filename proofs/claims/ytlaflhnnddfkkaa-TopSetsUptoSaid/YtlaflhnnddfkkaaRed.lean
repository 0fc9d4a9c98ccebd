/- Package red: colours, a number over two trees, painted, balanced. -/
import Derived.Test.YtlaflhnnddfkkaaRedTr
namespace Go.Proofs.Ytlaflhnnddfkkaa.red
open Go Go.RowKit
open Go.Proofs.Ytlaflhnnddfkkaa.sch

set_option maxHeartbeats 4000000 in
theorem isRed_any {t : Tr} {p : Option Addr} {w : World} {b : Bool} (h : Nod w.heap.size w t p) (hb : b = decide (top t = 1)) :
    Calls Try.prog 90 #[.pointer p] w fun e w' => e = .returned (.bool b) ∧ w = w' := by
  rcases t with _ | ⟨x, m, l, r⟩
  · obtain rfl : p = none := h
    obtain rfl : b = false := by simpa [top] using hb
    clear hb
    go_enter Try.func90, Try.ntmps90
    go_wp2_with fail
    go_ret
    exact ⟨rfl, rfl⟩
  · obtain ⟨g, c, d, rfl, hg, hk, -, -⟩ := h
    have c1 := hk.cell 1
    simp only [List.getElem?_cons_zero, List.getElem?_cons_succ] at c1
    by_cases hm : m = 1
    · obtain rfl : b = true := by simpa [top, hm] using hb
      subst hm
      clear hb hk
      go_enter Try.func90, Try.ntmps90
      go_wp2_with fail
      go_ret
      exact ⟨rfl, rfl⟩
    · have hb2 : (m == 1) = b := by rw [hb]; rfl
      clear hb hk hm
      go_enter Try.func90, Try.ntmps90
      go_wp2_with fail
      go_ret
      exact ⟨rfl, rfl⟩

set_option maxHeartbeats 4000000 in
theorem over_any {m x : Int} {a b : Tr} {p q : Option Addr} {w : World} (ha : IsT w (.pointer p) a) (hb : IsT w (.pointer q) b) :
    Calls Try.prog 86 #[.int .i64 m, .int .i64 x, .pointer p, .pointer q] w fun e w' => (∃ u, e = .returned u ∧ IsT w' u (.node x m a b)) ∧ Below w.heap.size w w' := by
  have hdone : Hid (∀ (W : World) (G : Nat), Below w.heap.size w W → hp.Blk W G tyT [.int .i64 x, .int .i64 m, .pointer p, .pointer q] → IsT W (.pointer (some ⟨G, 0, none⟩)) (.node x m a b)) := by
    intro W G hW hG
    exact ⟨_, rfl, G, p, q, rfl, hG.lt, hG, ha.nod.grow hW hW.size, hb.nod.grow hW hW.size⟩
  clear ha hb
  go_enter Try.func86, Try.ntmps86
  go_wp2_with fail
  go_ret
  have hb0 := (Below.refl w.heap.size w).alloc (Nat.le_refl _) (.cells #[.int .i64 x, .int .i64 m, .pointer p, .pointer q] tyT)
  exact ⟨⟨_, rfl, hdone.out _ _ hb0 (hp.Blk.newAt (cs := [.int .i64 x, .int .i64 m, .pointer p, .pointer q]) rfl)⟩, hb0⟩

set_option maxHeartbeats 8000000 in
theorem painted_any {m : Int} {t : Tr} {p : Option Addr} {w : World} (ht : IsT w (.pointer p) t) (hn : t ≠ .nil) :
    Calls Try.prog 60 #[.int .i64 m, .pointer p] w fun e w' => (∃ u, e = .returned u ∧ IsT w' u (paint m t)) ∧ Below w.heap.size w w' := by
  rcases t with _ | ⟨x, k, l, r⟩
  · exact absurd rfl hn
  obtain ⟨_, he, g, c, d, rfl, hg, hv, hl, hr⟩ := ht
  cases he
  have g0 := hv.cell 0
  have g2 := hv.cell 2
  have g3 := hv.cell 3
  simp only [List.getElem?_cons_zero, List.getElem?_cons_succ] at g0 g2 g3
  have o1 := fun W (hW : Below w.heap.size w W) => over_any (m := m) (x := x) (w := W) ⟨_, rfl, hl.grow hW hW.size⟩ ⟨_, rfl, hr.grow hW hW.size⟩
  show Calls _ _ _ _ fun e w' => (∃ u, e = .returned u ∧ IsT w' u (.node x m l r)) ∧ _
  have K := Below.refl w.heap.size w
  clear hn hv hl hr
  go_enter Try.func60, Try.ntmps60
  go_wp2_with fail
  apply rel.region_tail (C := fun w' => Below w.heap.size w w') (X := fun w w' => Below w.heap.size w w') 14 (by kernel_rfl) (by kernel_rfl) (by kernel_rfl) (by kernel_rfl) (K.drew)
  (apply rel.walk_val; (focus (intro wq hq hf; go_wp2; refine ⟨hq, Below.refl _ _, ?_, rfl⟩; (show rel.slot _ _ = _; simp only [rel.slot_lit, List.getD_cons_succ, List.getD_cons_zero]; (first | done | exact rfl)))); (simp only [rel.put_lit, List.set_cons_succ, List.set_cons_zero]))
  (apply rel.walk_val; (focus (intro wq hq hf; go_wp2; refine ⟨hq, Below.refl _ _, ?_, rfl⟩; (show rel.slot _ _ = _; simp only [rel.slot_lit, List.getD_cons_succ, List.getD_cons_zero]; (first | done | exact rfl)))); (simp only [rel.put_lit, List.set_cons_succ, List.set_cons_zero]))
  (apply rel.walk_val; (focus (intro wq hq hf; go_wp2; refine ⟨hq, Below.refl _ _, ?_, rfl⟩; (show rel.slot _ _ = _; simp only [rel.slot_lit, List.getD_cons_succ, List.getD_cons_zero]; (first | done | exact rfl)))); (simp only [rel.put_lit, List.set_cons_succ, List.set_cons_zero]))
  (apply rel.walk_val; (focus (intro wq hq hf; go_wp2; refine ⟨hq, Below.refl _ _, ?_, rfl⟩; (show rel.slot _ _ = _; simp only [rel.slot_lit, List.getD_cons_succ, List.getD_cons_zero]; (first | done | exact rfl)))); (simp only [rel.put_lit, List.set_cons_succ, List.set_cons_zero]))
  ((apply rel.walk_val; (focus (intro wq hq hf; (have d0 := (hq.cell (p := ⟨g, 0, none⟩) hg).trans g0); go_wp2; refine ⟨hq, Below.refl _ _, ?_, rfl⟩; (show rel.slot _ _ = _; simp only [rel.slot_lit, List.getD_cons_succ, List.getD_cons_zero]; (first | done | exact rfl)))); (simp only [rel.put_lit, List.set_cons_succ, List.set_cons_zero])))
  (apply rel.walk_val; (focus (intro wq hq hf; go_wp2; refine ⟨hq, Below.refl _ _, ?_, rfl⟩; (show rel.slot _ _ = _; simp only [rel.slot_lit, List.getD_cons_succ, List.getD_cons_zero]; (first | done | exact rfl)))); (simp only [rel.put_lit, List.set_cons_succ, List.set_cons_zero]))
  (apply rel.walk_val; (focus (intro wq hq hf; go_wp2; refine ⟨hq, Below.refl _ _, ?_, rfl⟩; (show rel.slot _ _ = _; simp only [rel.slot_lit, List.getD_cons_succ, List.getD_cons_zero]; (first | done | exact rfl)))); (simp only [rel.put_lit, List.set_cons_succ, List.set_cons_zero]))
  (apply rel.walk_val; (focus (intro wq hq hf; go_wp2; refine ⟨hq, Below.refl _ _, ?_, rfl⟩; (show rel.slot _ _ = _; simp only [rel.slot_lit, List.getD_cons_succ, List.getD_cons_zero]; (first | done | exact rfl)))); (simp only [rel.put_lit, List.set_cons_succ, List.set_cons_zero]))
  ((apply rel.walk_val; (focus (intro wq hq hf; (have d0 := (hq.cell (p := ⟨g, 2, none⟩) hg).trans g2); go_wp2; refine ⟨hq, Below.refl _ _, ?_, rfl⟩; (show rel.slot _ _ = _; simp only [rel.slot_lit, List.getD_cons_succ, List.getD_cons_zero]; (first | done | exact rfl)))); (simp only [rel.put_lit, List.set_cons_succ, List.set_cons_zero])))
  (apply rel.walk_val; (focus (intro wq hq hf; go_wp2; refine ⟨hq, Below.refl _ _, ?_, rfl⟩; (show rel.slot _ _ = _; simp only [rel.slot_lit, List.getD_cons_succ, List.getD_cons_zero]; (first | done | exact rfl)))); (simp only [rel.put_lit, List.set_cons_succ, List.set_cons_zero]))
  (apply rel.walk_val; (focus (intro wq hq hf; go_wp2; refine ⟨hq, Below.refl _ _, ?_, rfl⟩; (show rel.slot _ _ = _; simp only [rel.slot_lit, List.getD_cons_succ, List.getD_cons_zero]; (first | done | exact rfl)))); (simp only [rel.put_lit, List.set_cons_succ, List.set_cons_zero]))
  (apply rel.walk_val; (focus (intro wq hq hf; go_wp2; refine ⟨hq, Below.refl _ _, ?_, rfl⟩; (show rel.slot _ _ = _; simp only [rel.slot_lit, List.getD_cons_succ, List.getD_cons_zero]; (first | done | exact rfl)))); (simp only [rel.put_lit, List.set_cons_succ, List.set_cons_zero]))
  ((apply rel.walk_val; (focus (intro wq hq hf; (have d0 := (hq.cell (p := ⟨g, 3, none⟩) hg).trans g3); go_wp2; refine ⟨hq, Below.refl _ _, ?_, rfl⟩; (show rel.slot _ _ = _; simp only [rel.slot_lit, List.getD_cons_succ, List.getD_cons_zero]; (first | done | exact rfl)))); (simp only [rel.put_lit, List.set_cons_succ, List.set_cons_zero])))
  (apply rel.walk_rel (fun u w' => sch.IsT w' u (.node x m l r)) ⟨_, rfl⟩ (fun u w1 w2 h1 h2 => h2.on h1); (focus (intro wq hq hf; go_wp2_with (go_at_call 86; with_reducible refine (o1 _ hq).mono ?_; rintro e w'' ⟨⟨u, rfl, hu⟩, hb⟩); refine ⟨hq.trans (hb.mono hq.size), hb, ?_, rfl⟩; (show sch.IsT _ (rel.slot _ _) _; simp only [rel.slot_lit, List.getD_cons_succ, List.getD_cons_zero]; exact hu))); (intro u wu _ hu; obtain ⟨pz, rfl, -⟩ := hu; (simp only [rel.put_lit, List.set_cons_succ, List.set_cons_zero])))
  refine rel.walk_nil ?_
  intro w9 K9 hF
  have hu : IsT w9 (.pointer pz) _ := hF _ (List.mem_cons_self ..)
  clear hF
  simp only [List.drop_succ_cons, List.drop_zero]
  go_wp2
  go_ret
  exact ⟨⟨_, rfl, hu⟩, K9⟩

set_option maxHeartbeats 8000000 in
theorem lengthened_any {t : Tr} {p : Option Addr} {w : World} (ht : IsT w (.pointer p) t) :
    Calls Try.prog 75 #[.pointer p] w fun e w' => (∃ q, e = .returned (.tuple #[.pointer q, .bool (len t).2]) ∧ IsT w' (.pointer q) (len t).1) ∧ Below w.heap.size w w' := by
  by_cases h1 : top t = 1
  · have hi := fun W (hW : Below w.heap.size w W) => isRed_any (b := true) (ht.nod.grow hW hW.size) (by simpa using h1)
    have hp := painted_any (m := 0) ht (by rintro rfl; simp [top] at h1)
    rw [show len t = (paint 0 t, false) by unfold len; exact if_pos h1]
    have K := Below.refl w.heap.size w
    clear ht h1
    generalize paint 0 t = t' at *
    go_enter Try.func75, Try.ntmps75
    go_wp2_with (first
      | (go_at_call 90; with_reducible refine (hi _ K).mono ?_; clear hi; rintro e w1 ⟨rfl, rfl⟩)
      | (go_at_call 60; (with_reducible refine hp.mono ?_); clear hp; (rintro e w1 ⟨⟨u, rfl, hu⟩, hb1⟩; obtain ⟨q, rfl, hq⟩ := hu)))
    refine bodyPost_ret (v := .tuple #[.pointer q, .bool false]) (by simp [results, Try.results75, go_sem]) rfl ⟨⟨_, rfl, ⟨_, rfl, hq⟩⟩, hb1⟩
  · have hi := fun W (hW : Below w.heap.size w W) => isRed_any (b := false) (ht.nod.grow hW hW.size) (by simpa using h1)
    rw [show len t = (t, true) by unfold len; exact if_neg h1]
    have K := Below.refl w.heap.size w
    clear h1
    go_enter Try.func75, Try.ntmps75
    go_wp2_with (go_at_call 90; with_reducible refine (hi _ K).mono ?_; clear hi; rintro e w1 ⟨rfl, rfl⟩)
    refine bodyPost_ret (v := .tuple #[.pointer p, .bool true]) (by simp [results, Try.results75, go_sem]) rfl ⟨⟨_, rfl, ht⟩, Below.refl _ _⟩

set_option maxHeartbeats 8000000 in
theorem evened_any {m : Int} {t : Tr} {p : Option Addr} {w : World} (ht : IsT w (.pointer p) t) :
    Calls Try.prog 91 #[.int .i64 m, .pointer p] w fun e w' => (∃ q, e = .returned (.tuple #[.pointer q, .bool (evn m t).2]) ∧ IsT w' (.pointer q) (evn m t).1) ∧ Below w.heap.size w w' := by
  by_cases h1 : m = 1
  · subst h1
    rw [show evn 1 t = (t, false) from rfl]
    go_enter Try.func91, Try.ntmps91
    go_wp2_with fail
    refine bodyPost_ret (v := .tuple #[.pointer p, .bool false]) (by simp [results, Try.results91, go_sem]) rfl ⟨⟨_, rfl, ht⟩, Below.refl _ _⟩
  · rw [show evn m t = len t by unfold evn; exact if_neg h1]
    have hc := lengthened_any ht
    clear ht
    generalize len t = q at *
    obtain ⟨t', b⟩ := q
    simp only at hc ⊢
    go_enter Try.func91, Try.ntmps91
    go_wp2_with (go_at_call 75; with_reducible refine hc.mono ?_; clear hc; rintro e w1 ⟨⟨q, rfl, hq⟩, hb1⟩)
    refine bodyPost_ret (v := .tuple #[.pointer q, .bool b]) (by simp [results, Try.results91, go_sem]) rfl ⟨⟨_, rfl, hq⟩, hb1⟩


set_option maxHeartbeats 8000000 in
theorem bal_L {x y z : Int} {r s d b : Tr} {p q : Option Addr} {w : World} (ha : IsT w (.pointer p) (.node y 1 (.node z 1 r s) d)) (hb : IsT w (.pointer q) b) :
    Calls Try.prog 87 #[.int .i64 x, .pointer p, .pointer q] w fun e w' => (∃ u, e = .returned u ∧ IsT w' u (.node y 1 (.node z 0 r s) (.node x 0 d b))) ∧ Below w.heap.size w w' := by
  have ra := fun W (hW : Below w.heap.size w W) => isRed_any (b := true) (ha.nod.grow hW hW.size) rfl
  have ha0 := ha
  have hb0 := hb
  obtain ⟨_, he, g, gc, gd, rfl, hg, hgv, hgc, hgd⟩ := ha
  cases he
  have g0 := hgv.cell 0
  have g2 := hgv.cell 2
  have g3 := hgv.cell 3
  simp only [List.getElem?_cons_zero, List.getElem?_cons_succ] at g0 g2 g3
  have rc := fun W (hW : Below w.heap.size w W) => isRed_any (b := true) (hgc.grow hW hW.size) rfl
  have o0 := fun W (hW : Below w.heap.size w W) => painted_any (m := 0) (w := W) (t := .node z 1 r s) ⟨_, rfl, hgc.grow hW hW.size⟩ (by simp)
  have o1 := fun W (hW : Below w.heap.size w W) => over_any (m := 0) (x := x) (w := W) ⟨_, rfl, hgd.grow hW hW.size⟩ (hb0.on hW)
  have o2 := fun W u v (hu : IsT W (.pointer u) (.node z 0 r s)) (hv : IsT W (.pointer v) (.node x 0 d b)) => over_any (m := 1) (x := y) (w := W) hu hv
  have K := Below.refl w.heap.size w
  clear ha0 hb0 hgv hgc hgd hb
  go_enter Try.func87, Try.ntmps87
  go_wp2_with (first
    | (go_at_call 90; with_reducible refine (ra _ K).mono ?_; rintro e w1 ⟨rfl, rfl⟩)
    | (go_at_call 90; with_reducible refine (rc _ K).mono ?_; rintro e w1 ⟨rfl, rfl⟩))
  apply rel.region_tail (C := fun w' => Below w.heap.size w w') (X := fun w w' => Below w.heap.size w w') 17 (by kernel_rfl) (by kernel_rfl) (by kernel_rfl) (by kernel_rfl) (K.drew)
  (apply rel.walk_val; (focus (intro wq hq hf; go_wp2; refine ⟨hq, Below.refl _ _, ?_, rfl⟩; (show rel.slot _ _ = _; simp only [rel.slot_lit, List.getD_cons_succ, List.getD_cons_zero]; (first | done | exact rfl)))); (simp only [rel.put_lit, List.set_cons_succ, List.set_cons_zero]))
  (apply rel.walk_val; (focus (intro wq hq hf; go_wp2; refine ⟨hq, Below.refl _ _, ?_, rfl⟩; (show rel.slot _ _ = _; simp only [rel.slot_lit, List.getD_cons_succ, List.getD_cons_zero]; (first | done | exact rfl)))); (simp only [rel.put_lit, List.set_cons_succ, List.set_cons_zero]))
  (apply rel.walk_val; (focus (intro wq hq hf; go_wp2; refine ⟨hq, Below.refl _ _, ?_, rfl⟩; (show rel.slot _ _ = _; simp only [rel.slot_lit, List.getD_cons_succ, List.getD_cons_zero]; (first | done | exact rfl)))); (simp only [rel.put_lit, List.set_cons_succ, List.set_cons_zero]))
  ((apply rel.walk_val; (focus (intro wq hq hf; (have d0 := (hq.cell (p := ⟨g, 0, none⟩) hg).trans g0); go_wp2; refine ⟨hq, Below.refl _ _, ?_, rfl⟩; (show rel.slot _ _ = _; simp only [rel.slot_lit, List.getD_cons_succ, List.getD_cons_zero]; (first | done | exact rfl)))); (simp only [rel.put_lit, List.set_cons_succ, List.set_cons_zero])))
  (apply rel.walk_val; (focus (intro wq hq hf; go_wp2; refine ⟨hq, Below.refl _ _, ?_, rfl⟩; (show rel.slot _ _ = _; simp only [rel.slot_lit, List.getD_cons_succ, List.getD_cons_zero]; (first | done | exact rfl)))); (simp only [rel.put_lit, List.set_cons_succ, List.set_cons_zero]))
  (apply rel.walk_val; (focus (intro wq hq hf; go_wp2; refine ⟨hq, Below.refl _ _, ?_, rfl⟩; (show rel.slot _ _ = _; simp only [rel.slot_lit, List.getD_cons_succ, List.getD_cons_zero]; (first | done | exact rfl)))); (simp only [rel.put_lit, List.set_cons_succ, List.set_cons_zero]))
  (apply rel.walk_val; (focus (intro wq hq hf; go_wp2; refine ⟨hq, Below.refl _ _, ?_, rfl⟩; (show rel.slot _ _ = _; simp only [rel.slot_lit, List.getD_cons_succ, List.getD_cons_zero]; (first | done | exact rfl)))); (simp only [rel.put_lit, List.set_cons_succ, List.set_cons_zero]))
  ((apply rel.walk_val; (focus (intro wq hq hf; (have d0 := (hq.cell (p := ⟨g, 2, none⟩) hg).trans g2); go_wp2; refine ⟨hq, Below.refl _ _, ?_, rfl⟩; (show rel.slot _ _ = _; simp only [rel.slot_lit, List.getD_cons_succ, List.getD_cons_zero]; (first | done | exact rfl)))); (simp only [rel.put_lit, List.set_cons_succ, List.set_cons_zero])))
  (apply rel.walk_rel (fun u w' => sch.IsT w' u (.node z 0 r s)) ⟨_, rfl⟩ (fun u w1 w2 h1 h2 => h2.on h1); (focus (intro wq hq hf; go_wp2_with (go_at_call 60; with_reducible refine (o0 _ hq).mono ?_; rintro e w'' ⟨⟨u, rfl, hu⟩, hb⟩); refine ⟨hq.trans (hb.mono hq.size), hb, ?_, rfl⟩; (show sch.IsT _ (rel.slot _ _) _; simp only [rel.slot_lit, List.getD_cons_succ, List.getD_cons_zero]; exact hu))); (intro u wu _ hu; obtain ⟨pu, rfl, -⟩ := hu; (simp only [rel.put_lit, List.set_cons_succ, List.set_cons_zero])))
  (apply rel.walk_val; (focus (intro wq hq hf; go_wp2; refine ⟨hq, Below.refl _ _, ?_, rfl⟩; (show rel.slot _ _ = _; simp only [rel.slot_lit, List.getD_cons_succ, List.getD_cons_zero]; (first | done | exact rfl)))); (simp only [rel.put_lit, List.set_cons_succ, List.set_cons_zero]))
  (apply rel.walk_val; (focus (intro wq hq hf; go_wp2; refine ⟨hq, Below.refl _ _, ?_, rfl⟩; (show rel.slot _ _ = _; simp only [rel.slot_lit, List.getD_cons_succ, List.getD_cons_zero]; (first | done | exact rfl)))); (simp only [rel.put_lit, List.set_cons_succ, List.set_cons_zero]))
  (apply rel.walk_val; (focus (intro wq hq hf; go_wp2; refine ⟨hq, Below.refl _ _, ?_, rfl⟩; (show rel.slot _ _ = _; simp only [rel.slot_lit, List.getD_cons_succ, List.getD_cons_zero]; (first | done | exact rfl)))); (simp only [rel.put_lit, List.set_cons_succ, List.set_cons_zero]))
  (apply rel.walk_val; (focus (intro wq hq hf; go_wp2; refine ⟨hq, Below.refl _ _, ?_, rfl⟩; (show rel.slot _ _ = _; simp only [rel.slot_lit, List.getD_cons_succ, List.getD_cons_zero]; (first | done | exact rfl)))); (simp only [rel.put_lit, List.set_cons_succ, List.set_cons_zero]))
  ((apply rel.walk_val; (focus (intro wq hq hf; (have d0 := (hq.cell (p := ⟨g, 3, none⟩) hg).trans g3); go_wp2; refine ⟨hq, Below.refl _ _, ?_, rfl⟩; (show rel.slot _ _ = _; simp only [rel.slot_lit, List.getD_cons_succ, List.getD_cons_zero]; (first | done | exact rfl)))); (simp only [rel.put_lit, List.set_cons_succ, List.set_cons_zero])))
  (apply rel.walk_val; (focus (intro wq hq hf; go_wp2; refine ⟨hq, Below.refl _ _, ?_, rfl⟩; (show rel.slot _ _ = _; simp only [rel.slot_lit, List.getD_cons_succ, List.getD_cons_zero]; (first | done | exact rfl)))); (simp only [rel.put_lit, List.set_cons_succ, List.set_cons_zero]))
  (apply rel.walk_rel (fun u w' => sch.IsT w' u (.node x 0 d b)) ⟨_, rfl⟩ (fun u w1 w2 h1 h2 => h2.on h1); (focus (intro wq hq hf; go_wp2_with (go_at_call 86; with_reducible refine (o1 _ hq).mono ?_; rintro e w'' ⟨⟨u, rfl, hu⟩, hb⟩); refine ⟨hq.trans (hb.mono hq.size), hb, ?_, rfl⟩; (show sch.IsT _ (rel.slot _ _) _; simp only [rel.slot_lit, List.getD_cons_succ, List.getD_cons_zero]; exact hu))); (intro u wu _ hu; obtain ⟨pt, rfl, -⟩ := hu; (simp only [rel.put_lit, List.set_cons_succ, List.set_cons_zero])))
  (apply rel.walk_rel (fun u w' => sch.IsT w' u (.node y 1 (.node z 0 r s) (.node x 0 d b))) ⟨_, rfl⟩ (fun u w1 w2 h1 h2 => h2.on h1); (focus (intro wq hq hf; go_wp2_with (go_at_call 86; with_reducible refine (o2 _ _ _ (hf.get 1 rfl rfl) (hf.get 0 rfl rfl)).mono ?_; rintro e w'' ⟨⟨u, rfl, hu⟩, hb⟩); refine ⟨hq.trans (hb.mono hq.size), hb, ?_, rfl⟩; (show sch.IsT _ (rel.slot _ _) _; simp only [rel.slot_lit, List.getD_cons_succ, List.getD_cons_zero]; exact hu))); (intro u wu _ hu; obtain ⟨pz, rfl, -⟩ := hu; (simp only [rel.put_lit, List.set_cons_succ, List.set_cons_zero])))
  refine rel.walk_nil ?_
  intro w9 K9 hF
  have hu : IsT w9 (.pointer pz) _ := hF _ (List.mem_cons_self ..)
  clear hF
  simp only [List.drop_succ_cons, List.drop_zero]
  go_wp2
  go_ret
  exact ⟨⟨_, rfl, hu⟩, K9⟩

set_option maxHeartbeats 8000000 in
theorem bal_R {x y z : Int} {c r s b : Tr} {p q : Option Addr} {w : World} (ha : IsT w (.pointer p) (.node y 1 c (.node z 1 r s))) (hb : IsT w (.pointer q) b) (nc : top c ≠ 1) :
    Calls Try.prog 87 #[.int .i64 x, .pointer p, .pointer q] w fun e w' => (∃ u, e = .returned u ∧ IsT w' u (.node z 1 (.node y 0 c r) (.node x 0 s b))) ∧ Below w.heap.size w w' := by
  have ra := fun W (hW : Below w.heap.size w W) => isRed_any (b := true) (ha.nod.grow hW hW.size) rfl
  have ha0 := ha
  have hb0 := hb
  obtain ⟨_, he, g, gc, gd, rfl, hg, hgv, hgc, hgd⟩ := ha
  cases he
  have g0 := hgv.cell 0
  have g2 := hgv.cell 2
  have g3 := hgv.cell 3
  simp only [List.getElem?_cons_zero, List.getElem?_cons_succ] at g0 g2 g3
  have rc := fun W (hW : Below w.heap.size w W) => isRed_any (b := false) (hgc.grow hW hW.size) (decide_eq_false nc).symm
  have rd := fun W (hW : Below w.heap.size w W) => isRed_any (b := true) (hgd.grow hW hW.size) rfl
  have hin := hgd
  obtain ⟨h, pr, ps, rfl, hh, hv2, nr, ns⟩ := hin
  have h0_ := hv2.cell 0
  have h2 := hv2.cell 2
  have h3 := hv2.cell 3
  simp only [List.getElem?_cons_zero, List.getElem?_cons_succ] at h0_ h2 h3
  have o1 := fun W (hW : Below w.heap.size w W) => over_any (m := 0) (x := y) (w := W) ⟨_, rfl, hgc.grow hW hW.size⟩ ⟨_, rfl, nr.grow hW hW.size⟩
  have o2 := fun W (hW : Below w.heap.size w W) => over_any (m := 0) (x := x) (w := W) ⟨_, rfl, ns.grow hW hW.size⟩ (hb0.on hW)
  have o3 := fun W u v (hu : IsT W (.pointer u) (.node y 0 c r)) (hv : IsT W (.pointer v) (.node x 0 s b)) => over_any (m := 1) (x := z) (w := W) hu hv
  have K := Below.refl w.heap.size w
  clear ha0 hb0 hgv hgc hgd hb hv2 nr ns nc
  go_enter Try.func87, Try.ntmps87
  go_wp2_with (first
    | (go_at_call 90; with_reducible refine (ra _ K).mono ?_; rintro e w1 ⟨rfl, rfl⟩)
    | (go_at_call 90; with_reducible refine (rc _ K).mono ?_; rintro e w1 ⟨rfl, rfl⟩)
    | (go_at_call 90; with_reducible refine (rd _ K).mono ?_; rintro e w1 ⟨rfl, rfl⟩))
  apply rel.region_tail (C := fun w' => Below w.heap.size w w') (X := fun w w' => Below w.heap.size w w') 25 (by kernel_rfl) (by kernel_rfl) (by kernel_rfl) (by kernel_rfl) (K.drew)
  (apply rel.walk_val; (focus (intro wq hq hf; go_wp2; refine ⟨hq, Below.refl _ _, ?_, rfl⟩; (show rel.slot _ _ = _; simp only [rel.slot_lit, List.getD_cons_succ, List.getD_cons_zero]; (first | done | exact rfl)))); (simp only [rel.put_lit, List.set_cons_succ, List.set_cons_zero]))
  (apply rel.walk_val; (focus (intro wq hq hf; go_wp2; refine ⟨hq, Below.refl _ _, ?_, rfl⟩; (show rel.slot _ _ = _; simp only [rel.slot_lit, List.getD_cons_succ, List.getD_cons_zero]; (first | done | exact rfl)))); (simp only [rel.put_lit, List.set_cons_succ, List.set_cons_zero]))
  (apply rel.walk_val; (focus (intro wq hq hf; go_wp2; refine ⟨hq, Below.refl _ _, ?_, rfl⟩; (show rel.slot _ _ = _; simp only [rel.slot_lit, List.getD_cons_succ, List.getD_cons_zero]; (first | done | exact rfl)))); (simp only [rel.put_lit, List.set_cons_succ, List.set_cons_zero]))
  ((apply rel.walk_val; (focus (intro wq hq hf; (have d0 := (hq.cell (p := ⟨h, 0, none⟩) hh).trans h0_); go_wp2; refine ⟨hq, Below.refl _ _, ?_, rfl⟩; (show rel.slot _ _ = _; simp only [rel.slot_lit, List.getD_cons_succ, List.getD_cons_zero]; (first | done | exact rfl)))); (simp only [rel.put_lit, List.set_cons_succ, List.set_cons_zero])))
  (apply rel.walk_val; (focus (intro wq hq hf; go_wp2; refine ⟨hq, Below.refl _ _, ?_, rfl⟩; (show rel.slot _ _ = _; simp only [rel.slot_lit, List.getD_cons_succ, List.getD_cons_zero]; (first | done | exact rfl)))); (simp only [rel.put_lit, List.set_cons_succ, List.set_cons_zero]))
  (apply rel.walk_val; (focus (intro wq hq hf; go_wp2; refine ⟨hq, Below.refl _ _, ?_, rfl⟩; (show rel.slot _ _ = _; simp only [rel.slot_lit, List.getD_cons_succ, List.getD_cons_zero]; (first | done | exact rfl)))); (simp only [rel.put_lit, List.set_cons_succ, List.set_cons_zero]))
  (apply rel.walk_val; (focus (intro wq hq hf; go_wp2; refine ⟨hq, Below.refl _ _, ?_, rfl⟩; (show rel.slot _ _ = _; simp only [rel.slot_lit, List.getD_cons_succ, List.getD_cons_zero]; (first | done | exact rfl)))); (simp only [rel.put_lit, List.set_cons_succ, List.set_cons_zero]))
  ((apply rel.walk_val; (focus (intro wq hq hf; (have d0 := (hq.cell (p := ⟨g, 0, none⟩) hg).trans g0); go_wp2; refine ⟨hq, Below.refl _ _, ?_, rfl⟩; (show rel.slot _ _ = _; simp only [rel.slot_lit, List.getD_cons_succ, List.getD_cons_zero]; (first | done | exact rfl)))); (simp only [rel.put_lit, List.set_cons_succ, List.set_cons_zero])))
  (apply rel.walk_val; (focus (intro wq hq hf; go_wp2; refine ⟨hq, Below.refl _ _, ?_, rfl⟩; (show rel.slot _ _ = _; simp only [rel.slot_lit, List.getD_cons_succ, List.getD_cons_zero]; (first | done | exact rfl)))); (simp only [rel.put_lit, List.set_cons_succ, List.set_cons_zero]))
  (apply rel.walk_val; (focus (intro wq hq hf; go_wp2; refine ⟨hq, Below.refl _ _, ?_, rfl⟩; (show rel.slot _ _ = _; simp only [rel.slot_lit, List.getD_cons_succ, List.getD_cons_zero]; (first | done | exact rfl)))); (simp only [rel.put_lit, List.set_cons_succ, List.set_cons_zero]))
  (apply rel.walk_val; (focus (intro wq hq hf; go_wp2; refine ⟨hq, Below.refl _ _, ?_, rfl⟩; (show rel.slot _ _ = _; simp only [rel.slot_lit, List.getD_cons_succ, List.getD_cons_zero]; (first | done | exact rfl)))); (simp only [rel.put_lit, List.set_cons_succ, List.set_cons_zero]))
  ((apply rel.walk_val; (focus (intro wq hq hf; (have d0 := (hq.cell (p := ⟨g, 2, none⟩) hg).trans g2); go_wp2; refine ⟨hq, Below.refl _ _, ?_, rfl⟩; (show rel.slot _ _ = _; simp only [rel.slot_lit, List.getD_cons_succ, List.getD_cons_zero]; (first | done | exact rfl)))); (simp only [rel.put_lit, List.set_cons_succ, List.set_cons_zero])))
  (apply rel.walk_val; (focus (intro wq hq hf; go_wp2; refine ⟨hq, Below.refl _ _, ?_, rfl⟩; (show rel.slot _ _ = _; simp only [rel.slot_lit, List.getD_cons_succ, List.getD_cons_zero]; (first | done | exact rfl)))); (simp only [rel.put_lit, List.set_cons_succ, List.set_cons_zero]))
  (apply rel.walk_val; (focus (intro wq hq hf; go_wp2; refine ⟨hq, Below.refl _ _, ?_, rfl⟩; (show rel.slot _ _ = _; simp only [rel.slot_lit, List.getD_cons_succ, List.getD_cons_zero]; (first | done | exact rfl)))); (simp only [rel.put_lit, List.set_cons_succ, List.set_cons_zero]))
  (apply rel.walk_val; (focus (intro wq hq hf; go_wp2; refine ⟨hq, Below.refl _ _, ?_, rfl⟩; (show rel.slot _ _ = _; simp only [rel.slot_lit, List.getD_cons_succ, List.getD_cons_zero]; (first | done | exact rfl)))); (simp only [rel.put_lit, List.set_cons_succ, List.set_cons_zero]))
  ((apply rel.walk_val; (focus (intro wq hq hf; (have d0 := (hq.cell (p := ⟨h, 2, none⟩) hh).trans h2); go_wp2; refine ⟨hq, Below.refl _ _, ?_, rfl⟩; (show rel.slot _ _ = _; simp only [rel.slot_lit, List.getD_cons_succ, List.getD_cons_zero]; (first | done | exact rfl)))); (simp only [rel.put_lit, List.set_cons_succ, List.set_cons_zero])))
  (apply rel.walk_rel (fun u w' => sch.IsT w' u (.node y 0 c r)) ⟨_, rfl⟩ (fun u w1 w2 h1 h2 => h2.on h1); (focus (intro wq hq hf; go_wp2_with (go_at_call 86; with_reducible refine (o1 _ hq).mono ?_; rintro e w'' ⟨⟨u, rfl, hu⟩, hb⟩); refine ⟨hq.trans (hb.mono hq.size), hb, ?_, rfl⟩; (show sch.IsT _ (rel.slot _ _) _; simp only [rel.slot_lit, List.getD_cons_succ, List.getD_cons_zero]; exact hu))); (intro u wu _ hu; obtain ⟨pu, rfl, -⟩ := hu; (simp only [rel.put_lit, List.set_cons_succ, List.set_cons_zero])))
  (apply rel.walk_val; (focus (intro wq hq hf; go_wp2; refine ⟨hq, Below.refl _ _, ?_, rfl⟩; (show rel.slot _ _ = _; simp only [rel.slot_lit, List.getD_cons_succ, List.getD_cons_zero]; (first | done | exact rfl)))); (simp only [rel.put_lit, List.set_cons_succ, List.set_cons_zero]))
  (apply rel.walk_val; (focus (intro wq hq hf; go_wp2; refine ⟨hq, Below.refl _ _, ?_, rfl⟩; (show rel.slot _ _ = _; simp only [rel.slot_lit, List.getD_cons_succ, List.getD_cons_zero]; (first | done | exact rfl)))); (simp only [rel.put_lit, List.set_cons_succ, List.set_cons_zero]))
  (apply rel.walk_val; (focus (intro wq hq hf; go_wp2; refine ⟨hq, Below.refl _ _, ?_, rfl⟩; (show rel.slot _ _ = _; simp only [rel.slot_lit, List.getD_cons_succ, List.getD_cons_zero]; (first | done | exact rfl)))); (simp only [rel.put_lit, List.set_cons_succ, List.set_cons_zero]))
  (apply rel.walk_val; (focus (intro wq hq hf; go_wp2; refine ⟨hq, Below.refl _ _, ?_, rfl⟩; (show rel.slot _ _ = _; simp only [rel.slot_lit, List.getD_cons_succ, List.getD_cons_zero]; (first | done | exact rfl)))); (simp only [rel.put_lit, List.set_cons_succ, List.set_cons_zero]))
  ((apply rel.walk_val; (focus (intro wq hq hf; (have d0 := (hq.cell (p := ⟨h, 3, none⟩) hh).trans h3); go_wp2; refine ⟨hq, Below.refl _ _, ?_, rfl⟩; (show rel.slot _ _ = _; simp only [rel.slot_lit, List.getD_cons_succ, List.getD_cons_zero]; (first | done | exact rfl)))); (simp only [rel.put_lit, List.set_cons_succ, List.set_cons_zero])))
  (apply rel.walk_val; (focus (intro wq hq hf; go_wp2; refine ⟨hq, Below.refl _ _, ?_, rfl⟩; (show rel.slot _ _ = _; simp only [rel.slot_lit, List.getD_cons_succ, List.getD_cons_zero]; (first | done | exact rfl)))); (simp only [rel.put_lit, List.set_cons_succ, List.set_cons_zero]))
  (apply rel.walk_rel (fun u w' => sch.IsT w' u (.node x 0 s b)) ⟨_, rfl⟩ (fun u w1 w2 h1 h2 => h2.on h1); (focus (intro wq hq hf; go_wp2_with (go_at_call 86; with_reducible refine (o2 _ hq).mono ?_; rintro e w'' ⟨⟨u, rfl, hu⟩, hb⟩); refine ⟨hq.trans (hb.mono hq.size), hb, ?_, rfl⟩; (show sch.IsT _ (rel.slot _ _) _; simp only [rel.slot_lit, List.getD_cons_succ, List.getD_cons_zero]; exact hu))); (intro u wu _ hu; obtain ⟨pt, rfl, -⟩ := hu; (simp only [rel.put_lit, List.set_cons_succ, List.set_cons_zero])))
  (apply rel.walk_rel (fun u w' => sch.IsT w' u (.node z 1 (.node y 0 c r) (.node x 0 s b))) ⟨_, rfl⟩ (fun u w1 w2 h1 h2 => h2.on h1); (focus (intro wq hq hf; go_wp2_with (go_at_call 86; with_reducible refine (o3 _ _ _ (hf.get 1 rfl rfl) (hf.get 0 rfl rfl)).mono ?_; rintro e w'' ⟨⟨u, rfl, hu⟩, hb⟩); refine ⟨hq.trans (hb.mono hq.size), hb, ?_, rfl⟩; (show sch.IsT _ (rel.slot _ _) _; simp only [rel.slot_lit, List.getD_cons_succ, List.getD_cons_zero]; exact hu))); (intro u wu _ hu; obtain ⟨pz, rfl, -⟩ := hu; (simp only [rel.put_lit, List.set_cons_succ, List.set_cons_zero])))
  refine rel.walk_nil ?_
  intro w9 K9 hF
  have hu : IsT w9 (.pointer pz) _ := hF _ (List.mem_cons_self ..)
  clear hF
  simp only [List.drop_succ_cons, List.drop_zero]
  go_wp2
  go_ret
  exact ⟨⟨_, rfl, hu⟩, K9⟩

set_option maxHeartbeats 8000000 in
theorem bal_any_R {x v z : Int} {a i r s : Tr} {p q : Option Addr} {w : World} (ha : IsT w (.pointer p) a) (hb : IsT w (.pointer q) (.node v 1 i (.node z 1 r s))) (na : top a ≠ 1) :
    Calls Try.prog 87 #[.int .i64 x, .pointer p, .pointer q] w fun e w' => (∃ u, e = .returned u ∧ IsT w' u (.node v 1 (.node x 0 a i) (.node z 0 r s))) ∧ Below w.heap.size w w' := by
  have ra := fun W (hW : Below w.heap.size w W) => isRed_any (b := false) (ha.nod.grow hW hW.size) (decide_eq_false na).symm
  have rb := fun W (hW : Below w.heap.size w W) => isRed_any (b := true) (hb.nod.grow hW hW.size) rfl
  have ha0 := ha
  have hb0 := hb
  obtain ⟨_, he, k, kc, kd, rfl, hk, hkv, hkc, hkd⟩ := hb
  cases he
  have k0 := hkv.cell 0
  have k2 := hkv.cell 2
  have k3 := hkv.cell 3
  simp only [List.getElem?_cons_zero, List.getElem?_cons_succ] at k0 k2 k3
  have rf := fun W (hW : Below w.heap.size w W) => isRed_any (b := true) (hkd.grow hW hW.size) rfl
  have o0 := fun W (hW : Below w.heap.size w W) => painted_any (m := 0) (w := W) (t := .node z 1 r s) ⟨_, rfl, hkd.grow hW hW.size⟩ (by simp)
  have o1 := fun W (hW : Below w.heap.size w W) => over_any (m := 0) (x := x) (w := W) (ha0.on hW) ⟨_, rfl, hkc.grow hW hW.size⟩
  have o2 := fun W u v2 (hu : IsT W (.pointer u) (.node x 0 a i)) (hv : IsT W (.pointer v2) (.node z 0 r s)) => over_any (m := 1) (x := v) (w := W) hu hv
  have K := Below.refl w.heap.size w
  clear ha0 hb0 ha hkv hkc hkd na
  go_enter Try.func87, Try.ntmps87
  go_wp2_with (first
    | (go_at_call 90; with_reducible refine (ra _ K).mono ?_; rintro e w1 ⟨rfl, rfl⟩)
    | (go_at_call 90; with_reducible refine (rb _ K).mono ?_; rintro e w1 ⟨rfl, rfl⟩)
    | (go_at_call 90; with_reducible refine (rf _ K).mono ?_; rintro e w1 ⟨rfl, rfl⟩))
  apply rel.region_tail (C := fun w' => Below w.heap.size w w') (X := fun w w' => Below w.heap.size w w') 17 (by kernel_rfl) (by kernel_rfl) (by kernel_rfl) (by kernel_rfl) (K.drew)
  (apply rel.walk_val; (focus (intro wq hq hf; go_wp2; refine ⟨hq, Below.refl _ _, ?_, rfl⟩; (show rel.slot _ _ = _; simp only [rel.slot_lit, List.getD_cons_succ, List.getD_cons_zero]; (first | done | exact rfl)))); (simp only [rel.put_lit, List.set_cons_succ, List.set_cons_zero]))
  (apply rel.walk_val; (focus (intro wq hq hf; go_wp2; refine ⟨hq, Below.refl _ _, ?_, rfl⟩; (show rel.slot _ _ = _; simp only [rel.slot_lit, List.getD_cons_succ, List.getD_cons_zero]; (first | done | exact rfl)))); (simp only [rel.put_lit, List.set_cons_succ, List.set_cons_zero]))
  (apply rel.walk_val; (focus (intro wq hq hf; go_wp2; refine ⟨hq, Below.refl _ _, ?_, rfl⟩; (show rel.slot _ _ = _; simp only [rel.slot_lit, List.getD_cons_succ, List.getD_cons_zero]; (first | done | exact rfl)))); (simp only [rel.put_lit, List.set_cons_succ, List.set_cons_zero]))
  ((apply rel.walk_val; (focus (intro wq hq hf; (have d0 := (hq.cell (p := ⟨k, 0, none⟩) hk).trans k0); go_wp2; refine ⟨hq, Below.refl _ _, ?_, rfl⟩; (show rel.slot _ _ = _; simp only [rel.slot_lit, List.getD_cons_succ, List.getD_cons_zero]; (first | done | exact rfl)))); (simp only [rel.put_lit, List.set_cons_succ, List.set_cons_zero])))
  (apply rel.walk_val; (focus (intro wq hq hf; go_wp2; refine ⟨hq, Below.refl _ _, ?_, rfl⟩; (show rel.slot _ _ = _; simp only [rel.slot_lit, List.getD_cons_succ, List.getD_cons_zero]; (first | done | exact rfl)))); (simp only [rel.put_lit, List.set_cons_succ, List.set_cons_zero]))
  (apply rel.walk_val; (focus (intro wq hq hf; go_wp2; refine ⟨hq, Below.refl _ _, ?_, rfl⟩; (show rel.slot _ _ = _; simp only [rel.slot_lit, List.getD_cons_succ, List.getD_cons_zero]; (first | done | exact rfl)))); (simp only [rel.put_lit, List.set_cons_succ, List.set_cons_zero]))
  (apply rel.walk_val; (focus (intro wq hq hf; go_wp2; refine ⟨hq, Below.refl _ _, ?_, rfl⟩; (show rel.slot _ _ = _; simp only [rel.slot_lit, List.getD_cons_succ, List.getD_cons_zero]; (first | done | exact rfl)))); (simp only [rel.put_lit, List.set_cons_succ, List.set_cons_zero]))
  (apply rel.walk_val; (focus (intro wq hq hf; go_wp2; refine ⟨hq, Below.refl _ _, ?_, rfl⟩; (show rel.slot _ _ = _; simp only [rel.slot_lit, List.getD_cons_succ, List.getD_cons_zero]; (first | done | exact rfl)))); (simp only [rel.put_lit, List.set_cons_succ, List.set_cons_zero]))
  (apply rel.walk_val; (focus (intro wq hq hf; go_wp2; refine ⟨hq, Below.refl _ _, ?_, rfl⟩; (show rel.slot _ _ = _; simp only [rel.slot_lit, List.getD_cons_succ, List.getD_cons_zero]; (first | done | exact rfl)))); (simp only [rel.put_lit, List.set_cons_succ, List.set_cons_zero]))
  ((apply rel.walk_val; (focus (intro wq hq hf; (have d0 := (hq.cell (p := ⟨k, 2, none⟩) hk).trans k2); go_wp2; refine ⟨hq, Below.refl _ _, ?_, rfl⟩; (show rel.slot _ _ = _; simp only [rel.slot_lit, List.getD_cons_succ, List.getD_cons_zero]; (first | done | exact rfl)))); (simp only [rel.put_lit, List.set_cons_succ, List.set_cons_zero])))
  (apply rel.walk_rel (fun u w' => sch.IsT w' u (.node x 0 a i)) ⟨_, rfl⟩ (fun u w1 w2 h1 h2 => h2.on h1); (focus (intro wq hq hf; go_wp2_with (go_at_call 86; with_reducible refine (o1 _ hq).mono ?_; rintro e w'' ⟨⟨u, rfl, hu⟩, hb⟩); refine ⟨hq.trans (hb.mono hq.size), hb, ?_, rfl⟩; (show sch.IsT _ (rel.slot _ _) _; simp only [rel.slot_lit, List.getD_cons_succ, List.getD_cons_zero]; exact hu))); (intro u wu _ hu; obtain ⟨pu, rfl, -⟩ := hu; (simp only [rel.put_lit, List.set_cons_succ, List.set_cons_zero])))
  (apply rel.walk_val; (focus (intro wq hq hf; go_wp2; refine ⟨hq, Below.refl _ _, ?_, rfl⟩; (show rel.slot _ _ = _; simp only [rel.slot_lit, List.getD_cons_succ, List.getD_cons_zero]; (first | done | exact rfl)))); (simp only [rel.put_lit, List.set_cons_succ, List.set_cons_zero]))
  (apply rel.walk_val; (focus (intro wq hq hf; go_wp2; refine ⟨hq, Below.refl _ _, ?_, rfl⟩; (show rel.slot _ _ = _; simp only [rel.slot_lit, List.getD_cons_succ, List.getD_cons_zero]; (first | done | exact rfl)))); (simp only [rel.put_lit, List.set_cons_succ, List.set_cons_zero]))
  (apply rel.walk_val; (focus (intro wq hq hf; go_wp2; refine ⟨hq, Below.refl _ _, ?_, rfl⟩; (show rel.slot _ _ = _; simp only [rel.slot_lit, List.getD_cons_succ, List.getD_cons_zero]; (first | done | exact rfl)))); (simp only [rel.put_lit, List.set_cons_succ, List.set_cons_zero]))
  ((apply rel.walk_val; (focus (intro wq hq hf; (have d0 := (hq.cell (p := ⟨k, 3, none⟩) hk).trans k3); go_wp2; refine ⟨hq, Below.refl _ _, ?_, rfl⟩; (show rel.slot _ _ = _; simp only [rel.slot_lit, List.getD_cons_succ, List.getD_cons_zero]; (first | done | exact rfl)))); (simp only [rel.put_lit, List.set_cons_succ, List.set_cons_zero])))
  (apply rel.walk_rel (fun u w' => sch.IsT w' u (.node z 0 r s)) ⟨_, rfl⟩ (fun u w1 w2 h1 h2 => h2.on h1); (focus (intro wq hq hf; go_wp2_with (go_at_call 60; with_reducible refine (o0 _ hq).mono ?_; rintro e w'' ⟨⟨u, rfl, hu⟩, hb⟩); refine ⟨hq.trans (hb.mono hq.size), hb, ?_, rfl⟩; (show sch.IsT _ (rel.slot _ _) _; simp only [rel.slot_lit, List.getD_cons_succ, List.getD_cons_zero]; exact hu))); (intro u wu _ hu; obtain ⟨pt, rfl, -⟩ := hu; (simp only [rel.put_lit, List.set_cons_succ, List.set_cons_zero])))
  (apply rel.walk_rel (fun u w' => sch.IsT w' u (.node v 1 (.node x 0 a i) (.node z 0 r s))) ⟨_, rfl⟩ (fun u w1 w2 h1 h2 => h2.on h1); (focus (intro wq hq hf; go_wp2_with (go_at_call 86; with_reducible refine (o2 _ _ _ (hf.get 1 rfl rfl) (hf.get 0 rfl rfl)).mono ?_; rintro e w'' ⟨⟨u, rfl, hu⟩, hb⟩); refine ⟨hq.trans (hb.mono hq.size), hb, ?_, rfl⟩; (show sch.IsT _ (rel.slot _ _) _; simp only [rel.slot_lit, List.getD_cons_succ, List.getD_cons_zero]; exact hu))); (intro u wu _ hu; obtain ⟨pz, rfl, -⟩ := hu; (simp only [rel.put_lit, List.set_cons_succ, List.set_cons_zero])))
  refine rel.walk_nil ?_
  intro w9 K9 hF
  have hu : IsT w9 (.pointer pz) _ := hF _ (List.mem_cons_self ..)
  clear hF
  simp only [List.drop_succ_cons, List.drop_zero]
  go_wp2
  go_ret
  exact ⟨⟨_, rfl, hu⟩, K9⟩

set_option maxHeartbeats 8000000 in
theorem bal_any_L {x v z : Int} {a r s j : Tr} {p q : Option Addr} {w : World} (ha : IsT w (.pointer p) a) (hb : IsT w (.pointer q) (.node v 1 (.node z 1 r s) j)) (na : top a ≠ 1) (nf : top j ≠ 1) :
    Calls Try.prog 87 #[.int .i64 x, .pointer p, .pointer q] w fun e w' => (∃ u, e = .returned u ∧ IsT w' u (.node z 1 (.node x 0 a r) (.node v 0 s j))) ∧ Below w.heap.size w w' := by
  have ra := fun W (hW : Below w.heap.size w W) => isRed_any (b := false) (ha.nod.grow hW hW.size) (decide_eq_false na).symm
  have rb := fun W (hW : Below w.heap.size w W) => isRed_any (b := true) (hb.nod.grow hW hW.size) rfl
  have ha0 := ha
  have hb0 := hb
  obtain ⟨_, he, k, kc, kd, rfl, hk, hkv, hkc, hkd⟩ := hb
  cases he
  have k0 := hkv.cell 0
  have k2 := hkv.cell 2
  have k3 := hkv.cell 3
  simp only [List.getElem?_cons_zero, List.getElem?_cons_succ] at k0 k2 k3
  have rf := fun W (hW : Below w.heap.size w W) => isRed_any (b := false) (hkd.grow hW hW.size) (decide_eq_false nf).symm
  have re := fun W (hW : Below w.heap.size w W) => isRed_any (b := true) (hkc.grow hW hW.size) rfl
  have hin := hkc
  obtain ⟨h, pr, ps, rfl, hh, hv2, nr, ns⟩ := hin
  have h0_ := hv2.cell 0
  have h2 := hv2.cell 2
  have h3 := hv2.cell 3
  simp only [List.getElem?_cons_zero, List.getElem?_cons_succ] at h0_ h2 h3
  have o1 := fun W (hW : Below w.heap.size w W) => over_any (m := 0) (x := x) (w := W) (ha0.on hW) ⟨_, rfl, nr.grow hW hW.size⟩
  have o2 := fun W (hW : Below w.heap.size w W) => over_any (m := 0) (x := v) (w := W) ⟨_, rfl, ns.grow hW hW.size⟩ ⟨_, rfl, hkd.grow hW hW.size⟩
  have o3 := fun W u v2 (hu : IsT W (.pointer u) (.node x 0 a r)) (hv : IsT W (.pointer v2) (.node v 0 s j)) => over_any (m := 1) (x := z) (w := W) hu hv
  have K := Below.refl w.heap.size w
  clear ha0 hb0 ha hkv hkc hkd hv2 nr ns na nf
  go_enter Try.func87, Try.ntmps87
  go_wp2_with (first
    | (go_at_call 90; with_reducible refine (ra _ K).mono ?_; rintro e w1 ⟨rfl, rfl⟩)
    | (go_at_call 90; with_reducible refine (rb _ K).mono ?_; rintro e w1 ⟨rfl, rfl⟩)
    | (go_at_call 90; with_reducible refine (rf _ K).mono ?_; rintro e w1 ⟨rfl, rfl⟩)
    | (go_at_call 90; with_reducible refine (re _ K).mono ?_; rintro e w1 ⟨rfl, rfl⟩))
  apply rel.region_tail (C := fun w' => Below w.heap.size w w') (X := fun w w' => Below w.heap.size w w') 25 (by kernel_rfl) (by kernel_rfl) (by kernel_rfl) (by kernel_rfl) (K.drew)
  (apply rel.walk_val; (focus (intro wq hq hf; go_wp2; refine ⟨hq, Below.refl _ _, ?_, rfl⟩; (show rel.slot _ _ = _; simp only [rel.slot_lit, List.getD_cons_succ, List.getD_cons_zero]; (first | done | exact rfl)))); (simp only [rel.put_lit, List.set_cons_succ, List.set_cons_zero]))
  (apply rel.walk_val; (focus (intro wq hq hf; go_wp2; refine ⟨hq, Below.refl _ _, ?_, rfl⟩; (show rel.slot _ _ = _; simp only [rel.slot_lit, List.getD_cons_succ, List.getD_cons_zero]; (first | done | exact rfl)))); (simp only [rel.put_lit, List.set_cons_succ, List.set_cons_zero]))
  (apply rel.walk_val; (focus (intro wq hq hf; go_wp2; refine ⟨hq, Below.refl _ _, ?_, rfl⟩; (show rel.slot _ _ = _; simp only [rel.slot_lit, List.getD_cons_succ, List.getD_cons_zero]; (first | done | exact rfl)))); (simp only [rel.put_lit, List.set_cons_succ, List.set_cons_zero]))
  ((apply rel.walk_val; (focus (intro wq hq hf; (have d0 := (hq.cell (p := ⟨h, 0, none⟩) hh).trans h0_); go_wp2; refine ⟨hq, Below.refl _ _, ?_, rfl⟩; (show rel.slot _ _ = _; simp only [rel.slot_lit, List.getD_cons_succ, List.getD_cons_zero]; (first | done | exact rfl)))); (simp only [rel.put_lit, List.set_cons_succ, List.set_cons_zero])))
  (apply rel.walk_val; (focus (intro wq hq hf; go_wp2; refine ⟨hq, Below.refl _ _, ?_, rfl⟩; (show rel.slot _ _ = _; simp only [rel.slot_lit, List.getD_cons_succ, List.getD_cons_zero]; (first | done | exact rfl)))); (simp only [rel.put_lit, List.set_cons_succ, List.set_cons_zero]))
  (apply rel.walk_val; (focus (intro wq hq hf; go_wp2; refine ⟨hq, Below.refl _ _, ?_, rfl⟩; (show rel.slot _ _ = _; simp only [rel.slot_lit, List.getD_cons_succ, List.getD_cons_zero]; (first | done | exact rfl)))); (simp only [rel.put_lit, List.set_cons_succ, List.set_cons_zero]))
  (apply rel.walk_val; (focus (intro wq hq hf; go_wp2; refine ⟨hq, Below.refl _ _, ?_, rfl⟩; (show rel.slot _ _ = _; simp only [rel.slot_lit, List.getD_cons_succ, List.getD_cons_zero]; (first | done | exact rfl)))); (simp only [rel.put_lit, List.set_cons_succ, List.set_cons_zero]))
  (apply rel.walk_val; (focus (intro wq hq hf; go_wp2; refine ⟨hq, Below.refl _ _, ?_, rfl⟩; (show rel.slot _ _ = _; simp only [rel.slot_lit, List.getD_cons_succ, List.getD_cons_zero]; (first | done | exact rfl)))); (simp only [rel.put_lit, List.set_cons_succ, List.set_cons_zero]))
  (apply rel.walk_val; (focus (intro wq hq hf; go_wp2; refine ⟨hq, Below.refl _ _, ?_, rfl⟩; (show rel.slot _ _ = _; simp only [rel.slot_lit, List.getD_cons_succ, List.getD_cons_zero]; (first | done | exact rfl)))); (simp only [rel.put_lit, List.set_cons_succ, List.set_cons_zero]))
  ((apply rel.walk_val; (focus (intro wq hq hf; (have d0 := (hq.cell (p := ⟨h, 2, none⟩) hh).trans h2); go_wp2; refine ⟨hq, Below.refl _ _, ?_, rfl⟩; (show rel.slot _ _ = _; simp only [rel.slot_lit, List.getD_cons_succ, List.getD_cons_zero]; (first | done | exact rfl)))); (simp only [rel.put_lit, List.set_cons_succ, List.set_cons_zero])))
  (apply rel.walk_rel (fun u w' => sch.IsT w' u (.node x 0 a r)) ⟨_, rfl⟩ (fun u w1 w2 h1 h2 => h2.on h1); (focus (intro wq hq hf; go_wp2_with (go_at_call 86; with_reducible refine (o1 _ hq).mono ?_; rintro e w'' ⟨⟨u, rfl, hu⟩, hb⟩); refine ⟨hq.trans (hb.mono hq.size), hb, ?_, rfl⟩; (show sch.IsT _ (rel.slot _ _) _; simp only [rel.slot_lit, List.getD_cons_succ, List.getD_cons_zero]; exact hu))); (intro u wu _ hu; obtain ⟨pu, rfl, -⟩ := hu; (simp only [rel.put_lit, List.set_cons_succ, List.set_cons_zero])))
  (apply rel.walk_val; (focus (intro wq hq hf; go_wp2; refine ⟨hq, Below.refl _ _, ?_, rfl⟩; (show rel.slot _ _ = _; simp only [rel.slot_lit, List.getD_cons_succ, List.getD_cons_zero]; (first | done | exact rfl)))); (simp only [rel.put_lit, List.set_cons_succ, List.set_cons_zero]))
  (apply rel.walk_val; (focus (intro wq hq hf; go_wp2; refine ⟨hq, Below.refl _ _, ?_, rfl⟩; (show rel.slot _ _ = _; simp only [rel.slot_lit, List.getD_cons_succ, List.getD_cons_zero]; (first | done | exact rfl)))); (simp only [rel.put_lit, List.set_cons_succ, List.set_cons_zero]))
  (apply rel.walk_val; (focus (intro wq hq hf; go_wp2; refine ⟨hq, Below.refl _ _, ?_, rfl⟩; (show rel.slot _ _ = _; simp only [rel.slot_lit, List.getD_cons_succ, List.getD_cons_zero]; (first | done | exact rfl)))); (simp only [rel.put_lit, List.set_cons_succ, List.set_cons_zero]))
  ((apply rel.walk_val; (focus (intro wq hq hf; (have d0 := (hq.cell (p := ⟨k, 0, none⟩) hk).trans k0); go_wp2; refine ⟨hq, Below.refl _ _, ?_, rfl⟩; (show rel.slot _ _ = _; simp only [rel.slot_lit, List.getD_cons_succ, List.getD_cons_zero]; (first | done | exact rfl)))); (simp only [rel.put_lit, List.set_cons_succ, List.set_cons_zero])))
  (apply rel.walk_val; (focus (intro wq hq hf; go_wp2; refine ⟨hq, Below.refl _ _, ?_, rfl⟩; (show rel.slot _ _ = _; simp only [rel.slot_lit, List.getD_cons_succ, List.getD_cons_zero]; (first | done | exact rfl)))); (simp only [rel.put_lit, List.set_cons_succ, List.set_cons_zero]))
  (apply rel.walk_val; (focus (intro wq hq hf; go_wp2; refine ⟨hq, Below.refl _ _, ?_, rfl⟩; (show rel.slot _ _ = _; simp only [rel.slot_lit, List.getD_cons_succ, List.getD_cons_zero]; (first | done | exact rfl)))); (simp only [rel.put_lit, List.set_cons_succ, List.set_cons_zero]))
  (apply rel.walk_val; (focus (intro wq hq hf; go_wp2; refine ⟨hq, Below.refl _ _, ?_, rfl⟩; (show rel.slot _ _ = _; simp only [rel.slot_lit, List.getD_cons_succ, List.getD_cons_zero]; (first | done | exact rfl)))); (simp only [rel.put_lit, List.set_cons_succ, List.set_cons_zero]))
  ((apply rel.walk_val; (focus (intro wq hq hf; (have d0 := (hq.cell (p := ⟨h, 3, none⟩) hh).trans h3); go_wp2; refine ⟨hq, Below.refl _ _, ?_, rfl⟩; (show rel.slot _ _ = _; simp only [rel.slot_lit, List.getD_cons_succ, List.getD_cons_zero]; (first | done | exact rfl)))); (simp only [rel.put_lit, List.set_cons_succ, List.set_cons_zero])))
  (apply rel.walk_val; (focus (intro wq hq hf; go_wp2; refine ⟨hq, Below.refl _ _, ?_, rfl⟩; (show rel.slot _ _ = _; simp only [rel.slot_lit, List.getD_cons_succ, List.getD_cons_zero]; (first | done | exact rfl)))); (simp only [rel.put_lit, List.set_cons_succ, List.set_cons_zero]))
  (apply rel.walk_val; (focus (intro wq hq hf; go_wp2; refine ⟨hq, Below.refl _ _, ?_, rfl⟩; (show rel.slot _ _ = _; simp only [rel.slot_lit, List.getD_cons_succ, List.getD_cons_zero]; (first | done | exact rfl)))); (simp only [rel.put_lit, List.set_cons_succ, List.set_cons_zero]))
  (apply rel.walk_val; (focus (intro wq hq hf; go_wp2; refine ⟨hq, Below.refl _ _, ?_, rfl⟩; (show rel.slot _ _ = _; simp only [rel.slot_lit, List.getD_cons_succ, List.getD_cons_zero]; (first | done | exact rfl)))); (simp only [rel.put_lit, List.set_cons_succ, List.set_cons_zero]))
  ((apply rel.walk_val; (focus (intro wq hq hf; (have d0 := (hq.cell (p := ⟨k, 3, none⟩) hk).trans k3); go_wp2; refine ⟨hq, Below.refl _ _, ?_, rfl⟩; (show rel.slot _ _ = _; simp only [rel.slot_lit, List.getD_cons_succ, List.getD_cons_zero]; (first | done | exact rfl)))); (simp only [rel.put_lit, List.set_cons_succ, List.set_cons_zero])))
  (apply rel.walk_rel (fun u w' => sch.IsT w' u (.node v 0 s j)) ⟨_, rfl⟩ (fun u w1 w2 h1 h2 => h2.on h1); (focus (intro wq hq hf; go_wp2_with (go_at_call 86; with_reducible refine (o2 _ hq).mono ?_; rintro e w'' ⟨⟨u, rfl, hu⟩, hb⟩); refine ⟨hq.trans (hb.mono hq.size), hb, ?_, rfl⟩; (show sch.IsT _ (rel.slot _ _) _; simp only [rel.slot_lit, List.getD_cons_succ, List.getD_cons_zero]; exact hu))); (intro u wu _ hu; obtain ⟨pt, rfl, -⟩ := hu; (simp only [rel.put_lit, List.set_cons_succ, List.set_cons_zero])))
  (apply rel.walk_rel (fun u w' => sch.IsT w' u (.node z 1 (.node x 0 a r) (.node v 0 s j))) ⟨_, rfl⟩ (fun u w1 w2 h1 h2 => h2.on h1); (focus (intro wq hq hf; go_wp2_with (go_at_call 86; with_reducible refine (o3 _ _ _ (hf.get 1 rfl rfl) (hf.get 0 rfl rfl)).mono ?_; rintro e w'' ⟨⟨u, rfl, hu⟩, hb⟩); refine ⟨hq.trans (hb.mono hq.size), hb, ?_, rfl⟩; (show sch.IsT _ (rel.slot _ _) _; simp only [rel.slot_lit, List.getD_cons_succ, List.getD_cons_zero]; exact hu))); (intro u wu _ hu; obtain ⟨pz, rfl, -⟩ := hu; (simp only [rel.put_lit, List.set_cons_succ, List.set_cons_zero])))
  refine rel.walk_nil ?_
  intro w9 K9 hF
  have hu : IsT w9 (.pointer pz) _ := hF _ (List.mem_cons_self ..)
  clear hF
  simp only [List.drop_succ_cons, List.drop_zero]
  go_wp2
  go_ret
  exact ⟨⟨_, rfl, hu⟩, K9⟩

set_option maxHeartbeats 8000000 in
theorem bal_any_red {x v : Int} {a i j : Tr} {p q : Option Addr} {w : World} (ha : IsT w (.pointer p) a) (hb : IsT w (.pointer q) (.node v 1 i j)) (na : top a ≠ 1) (ne : top i ≠ 1) (nf : top j ≠ 1) :
    Calls Try.prog 87 #[.int .i64 x, .pointer p, .pointer q] w fun e w' => (∃ u, e = .returned u ∧ IsT w' u (.node x 0 a (.node v 1 i j))) ∧ Below w.heap.size w w' := by
  have ra := fun W (hW : Below w.heap.size w W) => isRed_any (b := false) (ha.nod.grow hW hW.size) (decide_eq_false na).symm
  have rb := fun W (hW : Below w.heap.size w W) => isRed_any (b := true) (hb.nod.grow hW hW.size) rfl
  have ha0 := ha
  have hb0 := hb
  obtain ⟨_, he, k, kc, kd, rfl, hk, hkv, hkc, hkd⟩ := hb
  cases he
  have k0 := hkv.cell 0
  have k2 := hkv.cell 2
  have k3 := hkv.cell 3
  simp only [List.getElem?_cons_zero, List.getElem?_cons_succ] at k0 k2 k3
  have rf := fun W (hW : Below w.heap.size w W) => isRed_any (b := false) (hkd.grow hW hW.size) (decide_eq_false nf).symm
  have re := fun W (hW : Below w.heap.size w W) => isRed_any (b := false) (hkc.grow hW hW.size) (decide_eq_false ne).symm
  have o1 := over_any (m := 0) (x := x) ha0 hb0
  have K := Below.refl w.heap.size w
  clear ha0 hb0 ha hkv hkc hkd na ne nf
  go_enter Try.func87, Try.ntmps87
  go_wp2_with (first
    | (go_at_call 90; with_reducible refine (ra _ K).mono ?_; rintro e w1 ⟨rfl, rfl⟩)
    | (go_at_call 90; with_reducible refine (rb _ K).mono ?_; rintro e w1 ⟨rfl, rfl⟩)
    | (go_at_call 90; with_reducible refine (rf _ K).mono ?_; rintro e w1 ⟨rfl, rfl⟩)
    | (go_at_call 90; with_reducible refine (re _ K).mono ?_; rintro e w1 ⟨rfl, rfl⟩)
    | (go_at_call 86; with_reducible refine o1.mono ?_; clear o1; rintro e w1 ⟨⟨u, rfl, hu⟩, hb1⟩))
  go_ret
  exact ⟨⟨_, rfl, hu⟩, hb1⟩

set_option maxHeartbeats 8000000 in
theorem bal_any_any {x : Int} {a b : Tr} {p q : Option Addr} {w : World} (ha : IsT w (.pointer p) a) (hb : IsT w (.pointer q) b) (na : top a ≠ 1) (nb : top b ≠ 1) :
    Calls Try.prog 87 #[.int .i64 x, .pointer p, .pointer q] w fun e w' => (∃ u, e = .returned u ∧ IsT w' u (.node x 0 a b)) ∧ Below w.heap.size w w' := by
  have ra := fun W (hW : Below w.heap.size w W) => isRed_any (b := false) (ha.nod.grow hW hW.size) (decide_eq_false na).symm
  have rb := fun W (hW : Below w.heap.size w W) => isRed_any (b := false) (hb.nod.grow hW hW.size) (decide_eq_false nb).symm
  have ha0 := ha
  have hb0 := hb
  have o1 := over_any (m := 0) (x := x) ha0 hb0
  have K := Below.refl w.heap.size w
  clear ha0 hb0 ha hb na nb
  go_enter Try.func87, Try.ntmps87
  go_wp2_with (first
    | (go_at_call 90; with_reducible refine (ra _ K).mono ?_; rintro e w1 ⟨rfl, rfl⟩)
    | (go_at_call 90; with_reducible refine (rb _ K).mono ?_; rintro e w1 ⟨rfl, rfl⟩)
    | (go_at_call 86; with_reducible refine o1.mono ?_; clear o1; rintro e w1 ⟨⟨u, rfl, hu⟩, hb1⟩))
  go_ret
  exact ⟨⟨_, rfl, hu⟩, hb1⟩

set_option maxHeartbeats 8000000 in
theorem bal_red_R {x y v z : Int} {c d i r s : Tr} {p q : Option Addr} {w : World} (ha : IsT w (.pointer p) (.node y 1 c d)) (hb : IsT w (.pointer q) (.node v 1 i (.node z 1 r s))) (nc : top c ≠ 1) (nd : top d ≠ 1) :
    Calls Try.prog 87 #[.int .i64 x, .pointer p, .pointer q] w fun e w' => (∃ u, e = .returned u ∧ IsT w' u (.node v 1 (.node x 0 (.node y 1 c d) i) (.node z 0 r s))) ∧ Below w.heap.size w w' := by
  have ra := fun W (hW : Below w.heap.size w W) => isRed_any (b := true) (ha.nod.grow hW hW.size) rfl
  have rb := fun W (hW : Below w.heap.size w W) => isRed_any (b := true) (hb.nod.grow hW hW.size) rfl
  have ha0 := ha
  have hb0 := hb
  obtain ⟨_, he, g, gc, gd, rfl, hg, hgv, hgc, hgd⟩ := ha
  cases he
  have g0 := hgv.cell 0
  have g2 := hgv.cell 2
  have g3 := hgv.cell 3
  simp only [List.getElem?_cons_zero, List.getElem?_cons_succ] at g0 g2 g3
  have rc := fun W (hW : Below w.heap.size w W) => isRed_any (b := false) (hgc.grow hW hW.size) (decide_eq_false nc).symm
  have rd := fun W (hW : Below w.heap.size w W) => isRed_any (b := false) (hgd.grow hW hW.size) (decide_eq_false nd).symm
  obtain ⟨_, he, k, kc, kd, rfl, hk, hkv, hkc, hkd⟩ := hb
  cases he
  have k0 := hkv.cell 0
  have k2 := hkv.cell 2
  have k3 := hkv.cell 3
  simp only [List.getElem?_cons_zero, List.getElem?_cons_succ] at k0 k2 k3
  have rf := fun W (hW : Below w.heap.size w W) => isRed_any (b := true) (hkd.grow hW hW.size) rfl
  have o0 := fun W (hW : Below w.heap.size w W) => painted_any (m := 0) (w := W) (t := .node z 1 r s) ⟨_, rfl, hkd.grow hW hW.size⟩ (by simp)
  have o1 := fun W (hW : Below w.heap.size w W) => over_any (m := 0) (x := x) (w := W) (ha0.on hW) ⟨_, rfl, hkc.grow hW hW.size⟩
  have o2 := fun W u v2 (hu : IsT W (.pointer u) (.node x 0 (.node y 1 c d) i)) (hv : IsT W (.pointer v2) (.node z 0 r s)) => over_any (m := 1) (x := v) (w := W) hu hv
  have K := Below.refl w.heap.size w
  clear ha0 hb0 hgv hgc hgd hkv hkc hkd nc nd
  go_enter Try.func87, Try.ntmps87
  go_wp2_with (first
    | (go_at_call 90; with_reducible refine (ra _ K).mono ?_; rintro e w1 ⟨rfl, rfl⟩)
    | (go_at_call 90; with_reducible refine (rb _ K).mono ?_; rintro e w1 ⟨rfl, rfl⟩)
    | (go_at_call 90; with_reducible refine (rc _ K).mono ?_; rintro e w1 ⟨rfl, rfl⟩)
    | (go_at_call 90; with_reducible refine (rd _ K).mono ?_; rintro e w1 ⟨rfl, rfl⟩)
    | (go_at_call 90; with_reducible refine (rf _ K).mono ?_; rintro e w1 ⟨rfl, rfl⟩))
  apply rel.region_tail (C := fun w' => Below w.heap.size w w') (X := fun w w' => Below w.heap.size w w') 17 (by kernel_rfl) (by kernel_rfl) (by kernel_rfl) (by kernel_rfl) (K.drew)
  (apply rel.walk_val; (focus (intro wq hq hf; go_wp2; refine ⟨hq, Below.refl _ _, ?_, rfl⟩; (show rel.slot _ _ = _; simp only [rel.slot_lit, List.getD_cons_succ, List.getD_cons_zero]; (first | done | exact rfl)))); (simp only [rel.put_lit, List.set_cons_succ, List.set_cons_zero]))
  (apply rel.walk_val; (focus (intro wq hq hf; go_wp2; refine ⟨hq, Below.refl _ _, ?_, rfl⟩; (show rel.slot _ _ = _; simp only [rel.slot_lit, List.getD_cons_succ, List.getD_cons_zero]; (first | done | exact rfl)))); (simp only [rel.put_lit, List.set_cons_succ, List.set_cons_zero]))
  (apply rel.walk_val; (focus (intro wq hq hf; go_wp2; refine ⟨hq, Below.refl _ _, ?_, rfl⟩; (show rel.slot _ _ = _; simp only [rel.slot_lit, List.getD_cons_succ, List.getD_cons_zero]; (first | done | exact rfl)))); (simp only [rel.put_lit, List.set_cons_succ, List.set_cons_zero]))
  ((apply rel.walk_val; (focus (intro wq hq hf; (have d0 := (hq.cell (p := ⟨k, 0, none⟩) hk).trans k0); go_wp2; refine ⟨hq, Below.refl _ _, ?_, rfl⟩; (show rel.slot _ _ = _; simp only [rel.slot_lit, List.getD_cons_succ, List.getD_cons_zero]; (first | done | exact rfl)))); (simp only [rel.put_lit, List.set_cons_succ, List.set_cons_zero])))
  (apply rel.walk_val; (focus (intro wq hq hf; go_wp2; refine ⟨hq, Below.refl _ _, ?_, rfl⟩; (show rel.slot _ _ = _; simp only [rel.slot_lit, List.getD_cons_succ, List.getD_cons_zero]; (first | done | exact rfl)))); (simp only [rel.put_lit, List.set_cons_succ, List.set_cons_zero]))
  (apply rel.walk_val; (focus (intro wq hq hf; go_wp2; refine ⟨hq, Below.refl _ _, ?_, rfl⟩; (show rel.slot _ _ = _; simp only [rel.slot_lit, List.getD_cons_succ, List.getD_cons_zero]; (first | done | exact rfl)))); (simp only [rel.put_lit, List.set_cons_succ, List.set_cons_zero]))
  (apply rel.walk_val; (focus (intro wq hq hf; go_wp2; refine ⟨hq, Below.refl _ _, ?_, rfl⟩; (show rel.slot _ _ = _; simp only [rel.slot_lit, List.getD_cons_succ, List.getD_cons_zero]; (first | done | exact rfl)))); (simp only [rel.put_lit, List.set_cons_succ, List.set_cons_zero]))
  (apply rel.walk_val; (focus (intro wq hq hf; go_wp2; refine ⟨hq, Below.refl _ _, ?_, rfl⟩; (show rel.slot _ _ = _; simp only [rel.slot_lit, List.getD_cons_succ, List.getD_cons_zero]; (first | done | exact rfl)))); (simp only [rel.put_lit, List.set_cons_succ, List.set_cons_zero]))
  (apply rel.walk_val; (focus (intro wq hq hf; go_wp2; refine ⟨hq, Below.refl _ _, ?_, rfl⟩; (show rel.slot _ _ = _; simp only [rel.slot_lit, List.getD_cons_succ, List.getD_cons_zero]; (first | done | exact rfl)))); (simp only [rel.put_lit, List.set_cons_succ, List.set_cons_zero]))
  ((apply rel.walk_val; (focus (intro wq hq hf; (have d0 := (hq.cell (p := ⟨k, 2, none⟩) hk).trans k2); go_wp2; refine ⟨hq, Below.refl _ _, ?_, rfl⟩; (show rel.slot _ _ = _; simp only [rel.slot_lit, List.getD_cons_succ, List.getD_cons_zero]; (first | done | exact rfl)))); (simp only [rel.put_lit, List.set_cons_succ, List.set_cons_zero])))
  (apply rel.walk_rel (fun u w' => sch.IsT w' u (.node x 0 (.node y 1 c d) i)) ⟨_, rfl⟩ (fun u w1 w2 h1 h2 => h2.on h1); (focus (intro wq hq hf; go_wp2_with (go_at_call 86; with_reducible refine (o1 _ hq).mono ?_; rintro e w'' ⟨⟨u, rfl, hu⟩, hb⟩); refine ⟨hq.trans (hb.mono hq.size), hb, ?_, rfl⟩; (show sch.IsT _ (rel.slot _ _) _; simp only [rel.slot_lit, List.getD_cons_succ, List.getD_cons_zero]; exact hu))); (intro u wu _ hu; obtain ⟨pu, rfl, -⟩ := hu; (simp only [rel.put_lit, List.set_cons_succ, List.set_cons_zero])))
  (apply rel.walk_val; (focus (intro wq hq hf; go_wp2; refine ⟨hq, Below.refl _ _, ?_, rfl⟩; (show rel.slot _ _ = _; simp only [rel.slot_lit, List.getD_cons_succ, List.getD_cons_zero]; (first | done | exact rfl)))); (simp only [rel.put_lit, List.set_cons_succ, List.set_cons_zero]))
  (apply rel.walk_val; (focus (intro wq hq hf; go_wp2; refine ⟨hq, Below.refl _ _, ?_, rfl⟩; (show rel.slot _ _ = _; simp only [rel.slot_lit, List.getD_cons_succ, List.getD_cons_zero]; (first | done | exact rfl)))); (simp only [rel.put_lit, List.set_cons_succ, List.set_cons_zero]))
  (apply rel.walk_val; (focus (intro wq hq hf; go_wp2; refine ⟨hq, Below.refl _ _, ?_, rfl⟩; (show rel.slot _ _ = _; simp only [rel.slot_lit, List.getD_cons_succ, List.getD_cons_zero]; (first | done | exact rfl)))); (simp only [rel.put_lit, List.set_cons_succ, List.set_cons_zero]))
  ((apply rel.walk_val; (focus (intro wq hq hf; (have d0 := (hq.cell (p := ⟨k, 3, none⟩) hk).trans k3); go_wp2; refine ⟨hq, Below.refl _ _, ?_, rfl⟩; (show rel.slot _ _ = _; simp only [rel.slot_lit, List.getD_cons_succ, List.getD_cons_zero]; (first | done | exact rfl)))); (simp only [rel.put_lit, List.set_cons_succ, List.set_cons_zero])))
  (apply rel.walk_rel (fun u w' => sch.IsT w' u (.node z 0 r s)) ⟨_, rfl⟩ (fun u w1 w2 h1 h2 => h2.on h1); (focus (intro wq hq hf; go_wp2_with (go_at_call 60; with_reducible refine (o0 _ hq).mono ?_; rintro e w'' ⟨⟨u, rfl, hu⟩, hb⟩); refine ⟨hq.trans (hb.mono hq.size), hb, ?_, rfl⟩; (show sch.IsT _ (rel.slot _ _) _; simp only [rel.slot_lit, List.getD_cons_succ, List.getD_cons_zero]; exact hu))); (intro u wu _ hu; obtain ⟨pt, rfl, -⟩ := hu; (simp only [rel.put_lit, List.set_cons_succ, List.set_cons_zero])))
  (apply rel.walk_rel (fun u w' => sch.IsT w' u (.node v 1 (.node x 0 (.node y 1 c d) i) (.node z 0 r s))) ⟨_, rfl⟩ (fun u w1 w2 h1 h2 => h2.on h1); (focus (intro wq hq hf; go_wp2_with (go_at_call 86; with_reducible refine (o2 _ _ _ (hf.get 1 rfl rfl) (hf.get 0 rfl rfl)).mono ?_; rintro e w'' ⟨⟨u, rfl, hu⟩, hb⟩); refine ⟨hq.trans (hb.mono hq.size), hb, ?_, rfl⟩; (show sch.IsT _ (rel.slot _ _) _; simp only [rel.slot_lit, List.getD_cons_succ, List.getD_cons_zero]; exact hu))); (intro u wu _ hu; obtain ⟨pz, rfl, -⟩ := hu; (simp only [rel.put_lit, List.set_cons_succ, List.set_cons_zero])))
  refine rel.walk_nil ?_
  intro w9 K9 hF
  have hu : IsT w9 (.pointer pz) _ := hF _ (List.mem_cons_self ..)
  clear hF
  simp only [List.drop_succ_cons, List.drop_zero]
  go_wp2
  go_ret
  exact ⟨⟨_, rfl, hu⟩, K9⟩

set_option maxHeartbeats 8000000 in
theorem bal_red_L {x y v z : Int} {c d r s j : Tr} {p q : Option Addr} {w : World} (ha : IsT w (.pointer p) (.node y 1 c d)) (hb : IsT w (.pointer q) (.node v 1 (.node z 1 r s) j)) (nc : top c ≠ 1) (nd : top d ≠ 1) (nf : top j ≠ 1) :
    Calls Try.prog 87 #[.int .i64 x, .pointer p, .pointer q] w fun e w' => (∃ u, e = .returned u ∧ IsT w' u (.node z 1 (.node x 0 (.node y 1 c d) r) (.node v 0 s j))) ∧ Below w.heap.size w w' := by
  have ra := fun W (hW : Below w.heap.size w W) => isRed_any (b := true) (ha.nod.grow hW hW.size) rfl
  have rb := fun W (hW : Below w.heap.size w W) => isRed_any (b := true) (hb.nod.grow hW hW.size) rfl
  have ha0 := ha
  have hb0 := hb
  obtain ⟨_, he, g, gc, gd, rfl, hg, hgv, hgc, hgd⟩ := ha
  cases he
  have g0 := hgv.cell 0
  have g2 := hgv.cell 2
  have g3 := hgv.cell 3
  simp only [List.getElem?_cons_zero, List.getElem?_cons_succ] at g0 g2 g3
  have rc := fun W (hW : Below w.heap.size w W) => isRed_any (b := false) (hgc.grow hW hW.size) (decide_eq_false nc).symm
  have rd := fun W (hW : Below w.heap.size w W) => isRed_any (b := false) (hgd.grow hW hW.size) (decide_eq_false nd).symm
  obtain ⟨_, he, k, kc, kd, rfl, hk, hkv, hkc, hkd⟩ := hb
  cases he
  have k0 := hkv.cell 0
  have k2 := hkv.cell 2
  have k3 := hkv.cell 3
  simp only [List.getElem?_cons_zero, List.getElem?_cons_succ] at k0 k2 k3
  have rf := fun W (hW : Below w.heap.size w W) => isRed_any (b := false) (hkd.grow hW hW.size) (decide_eq_false nf).symm
  have re := fun W (hW : Below w.heap.size w W) => isRed_any (b := true) (hkc.grow hW hW.size) rfl
  have hin := hkc
  obtain ⟨h, pr, ps, rfl, hh, hv2, nr, ns⟩ := hin
  have h0_ := hv2.cell 0
  have h2 := hv2.cell 2
  have h3 := hv2.cell 3
  simp only [List.getElem?_cons_zero, List.getElem?_cons_succ] at h0_ h2 h3
  have o1 := fun W (hW : Below w.heap.size w W) => over_any (m := 0) (x := x) (w := W) (ha0.on hW) ⟨_, rfl, nr.grow hW hW.size⟩
  have o2 := fun W (hW : Below w.heap.size w W) => over_any (m := 0) (x := v) (w := W) ⟨_, rfl, ns.grow hW hW.size⟩ ⟨_, rfl, hkd.grow hW hW.size⟩
  have o3 := fun W u v2 (hu : IsT W (.pointer u) (.node x 0 (.node y 1 c d) r)) (hv : IsT W (.pointer v2) (.node v 0 s j)) => over_any (m := 1) (x := z) (w := W) hu hv
  have K := Below.refl w.heap.size w
  clear ha0 hb0 hgv hgc hgd hkv hkc hkd hv2 nr ns nc nd nf
  go_enter Try.func87, Try.ntmps87
  go_wp2_with (first
    | (go_at_call 90; with_reducible refine (ra _ K).mono ?_; rintro e w1 ⟨rfl, rfl⟩)
    | (go_at_call 90; with_reducible refine (rb _ K).mono ?_; rintro e w1 ⟨rfl, rfl⟩)
    | (go_at_call 90; with_reducible refine (rc _ K).mono ?_; rintro e w1 ⟨rfl, rfl⟩)
    | (go_at_call 90; with_reducible refine (rd _ K).mono ?_; rintro e w1 ⟨rfl, rfl⟩)
    | (go_at_call 90; with_reducible refine (rf _ K).mono ?_; rintro e w1 ⟨rfl, rfl⟩)
    | (go_at_call 90; with_reducible refine (re _ K).mono ?_; rintro e w1 ⟨rfl, rfl⟩))
  apply rel.region_tail (C := fun w' => Below w.heap.size w w') (X := fun w w' => Below w.heap.size w w') 25 (by kernel_rfl) (by kernel_rfl) (by kernel_rfl) (by kernel_rfl) (K.drew)
  (apply rel.walk_val; (focus (intro wq hq hf; go_wp2; refine ⟨hq, Below.refl _ _, ?_, rfl⟩; (show rel.slot _ _ = _; simp only [rel.slot_lit, List.getD_cons_succ, List.getD_cons_zero]; (first | done | exact rfl)))); (simp only [rel.put_lit, List.set_cons_succ, List.set_cons_zero]))
  (apply rel.walk_val; (focus (intro wq hq hf; go_wp2; refine ⟨hq, Below.refl _ _, ?_, rfl⟩; (show rel.slot _ _ = _; simp only [rel.slot_lit, List.getD_cons_succ, List.getD_cons_zero]; (first | done | exact rfl)))); (simp only [rel.put_lit, List.set_cons_succ, List.set_cons_zero]))
  (apply rel.walk_val; (focus (intro wq hq hf; go_wp2; refine ⟨hq, Below.refl _ _, ?_, rfl⟩; (show rel.slot _ _ = _; simp only [rel.slot_lit, List.getD_cons_succ, List.getD_cons_zero]; (first | done | exact rfl)))); (simp only [rel.put_lit, List.set_cons_succ, List.set_cons_zero]))
  ((apply rel.walk_val; (focus (intro wq hq hf; (have d0 := (hq.cell (p := ⟨h, 0, none⟩) hh).trans h0_); go_wp2; refine ⟨hq, Below.refl _ _, ?_, rfl⟩; (show rel.slot _ _ = _; simp only [rel.slot_lit, List.getD_cons_succ, List.getD_cons_zero]; (first | done | exact rfl)))); (simp only [rel.put_lit, List.set_cons_succ, List.set_cons_zero])))
  (apply rel.walk_val; (focus (intro wq hq hf; go_wp2; refine ⟨hq, Below.refl _ _, ?_, rfl⟩; (show rel.slot _ _ = _; simp only [rel.slot_lit, List.getD_cons_succ, List.getD_cons_zero]; (first | done | exact rfl)))); (simp only [rel.put_lit, List.set_cons_succ, List.set_cons_zero]))
  (apply rel.walk_val; (focus (intro wq hq hf; go_wp2; refine ⟨hq, Below.refl _ _, ?_, rfl⟩; (show rel.slot _ _ = _; simp only [rel.slot_lit, List.getD_cons_succ, List.getD_cons_zero]; (first | done | exact rfl)))); (simp only [rel.put_lit, List.set_cons_succ, List.set_cons_zero]))
  (apply rel.walk_val; (focus (intro wq hq hf; go_wp2; refine ⟨hq, Below.refl _ _, ?_, rfl⟩; (show rel.slot _ _ = _; simp only [rel.slot_lit, List.getD_cons_succ, List.getD_cons_zero]; (first | done | exact rfl)))); (simp only [rel.put_lit, List.set_cons_succ, List.set_cons_zero]))
  (apply rel.walk_val; (focus (intro wq hq hf; go_wp2; refine ⟨hq, Below.refl _ _, ?_, rfl⟩; (show rel.slot _ _ = _; simp only [rel.slot_lit, List.getD_cons_succ, List.getD_cons_zero]; (first | done | exact rfl)))); (simp only [rel.put_lit, List.set_cons_succ, List.set_cons_zero]))
  (apply rel.walk_val; (focus (intro wq hq hf; go_wp2; refine ⟨hq, Below.refl _ _, ?_, rfl⟩; (show rel.slot _ _ = _; simp only [rel.slot_lit, List.getD_cons_succ, List.getD_cons_zero]; (first | done | exact rfl)))); (simp only [rel.put_lit, List.set_cons_succ, List.set_cons_zero]))
  ((apply rel.walk_val; (focus (intro wq hq hf; (have d0 := (hq.cell (p := ⟨h, 2, none⟩) hh).trans h2); go_wp2; refine ⟨hq, Below.refl _ _, ?_, rfl⟩; (show rel.slot _ _ = _; simp only [rel.slot_lit, List.getD_cons_succ, List.getD_cons_zero]; (first | done | exact rfl)))); (simp only [rel.put_lit, List.set_cons_succ, List.set_cons_zero])))
  (apply rel.walk_rel (fun u w' => sch.IsT w' u (.node x 0 (.node y 1 c d) r)) ⟨_, rfl⟩ (fun u w1 w2 h1 h2 => h2.on h1); (focus (intro wq hq hf; go_wp2_with (go_at_call 86; with_reducible refine (o1 _ hq).mono ?_; rintro e w'' ⟨⟨u, rfl, hu⟩, hb⟩); refine ⟨hq.trans (hb.mono hq.size), hb, ?_, rfl⟩; (show sch.IsT _ (rel.slot _ _) _; simp only [rel.slot_lit, List.getD_cons_succ, List.getD_cons_zero]; exact hu))); (intro u wu _ hu; obtain ⟨pu, rfl, -⟩ := hu; (simp only [rel.put_lit, List.set_cons_succ, List.set_cons_zero])))
  (apply rel.walk_val; (focus (intro wq hq hf; go_wp2; refine ⟨hq, Below.refl _ _, ?_, rfl⟩; (show rel.slot _ _ = _; simp only [rel.slot_lit, List.getD_cons_succ, List.getD_cons_zero]; (first | done | exact rfl)))); (simp only [rel.put_lit, List.set_cons_succ, List.set_cons_zero]))
  (apply rel.walk_val; (focus (intro wq hq hf; go_wp2; refine ⟨hq, Below.refl _ _, ?_, rfl⟩; (show rel.slot _ _ = _; simp only [rel.slot_lit, List.getD_cons_succ, List.getD_cons_zero]; (first | done | exact rfl)))); (simp only [rel.put_lit, List.set_cons_succ, List.set_cons_zero]))
  (apply rel.walk_val; (focus (intro wq hq hf; go_wp2; refine ⟨hq, Below.refl _ _, ?_, rfl⟩; (show rel.slot _ _ = _; simp only [rel.slot_lit, List.getD_cons_succ, List.getD_cons_zero]; (first | done | exact rfl)))); (simp only [rel.put_lit, List.set_cons_succ, List.set_cons_zero]))
  ((apply rel.walk_val; (focus (intro wq hq hf; (have d0 := (hq.cell (p := ⟨k, 0, none⟩) hk).trans k0); go_wp2; refine ⟨hq, Below.refl _ _, ?_, rfl⟩; (show rel.slot _ _ = _; simp only [rel.slot_lit, List.getD_cons_succ, List.getD_cons_zero]; (first | done | exact rfl)))); (simp only [rel.put_lit, List.set_cons_succ, List.set_cons_zero])))
  (apply rel.walk_val; (focus (intro wq hq hf; go_wp2; refine ⟨hq, Below.refl _ _, ?_, rfl⟩; (show rel.slot _ _ = _; simp only [rel.slot_lit, List.getD_cons_succ, List.getD_cons_zero]; (first | done | exact rfl)))); (simp only [rel.put_lit, List.set_cons_succ, List.set_cons_zero]))
  (apply rel.walk_val; (focus (intro wq hq hf; go_wp2; refine ⟨hq, Below.refl _ _, ?_, rfl⟩; (show rel.slot _ _ = _; simp only [rel.slot_lit, List.getD_cons_succ, List.getD_cons_zero]; (first | done | exact rfl)))); (simp only [rel.put_lit, List.set_cons_succ, List.set_cons_zero]))
  (apply rel.walk_val; (focus (intro wq hq hf; go_wp2; refine ⟨hq, Below.refl _ _, ?_, rfl⟩; (show rel.slot _ _ = _; simp only [rel.slot_lit, List.getD_cons_succ, List.getD_cons_zero]; (first | done | exact rfl)))); (simp only [rel.put_lit, List.set_cons_succ, List.set_cons_zero]))
  ((apply rel.walk_val; (focus (intro wq hq hf; (have d0 := (hq.cell (p := ⟨h, 3, none⟩) hh).trans h3); go_wp2; refine ⟨hq, Below.refl _ _, ?_, rfl⟩; (show rel.slot _ _ = _; simp only [rel.slot_lit, List.getD_cons_succ, List.getD_cons_zero]; (first | done | exact rfl)))); (simp only [rel.put_lit, List.set_cons_succ, List.set_cons_zero])))
  (apply rel.walk_val; (focus (intro wq hq hf; go_wp2; refine ⟨hq, Below.refl _ _, ?_, rfl⟩; (show rel.slot _ _ = _; simp only [rel.slot_lit, List.getD_cons_succ, List.getD_cons_zero]; (first | done | exact rfl)))); (simp only [rel.put_lit, List.set_cons_succ, List.set_cons_zero]))
  (apply rel.walk_val; (focus (intro wq hq hf; go_wp2; refine ⟨hq, Below.refl _ _, ?_, rfl⟩; (show rel.slot _ _ = _; simp only [rel.slot_lit, List.getD_cons_succ, List.getD_cons_zero]; (first | done | exact rfl)))); (simp only [rel.put_lit, List.set_cons_succ, List.set_cons_zero]))
  (apply rel.walk_val; (focus (intro wq hq hf; go_wp2; refine ⟨hq, Below.refl _ _, ?_, rfl⟩; (show rel.slot _ _ = _; simp only [rel.slot_lit, List.getD_cons_succ, List.getD_cons_zero]; (first | done | exact rfl)))); (simp only [rel.put_lit, List.set_cons_succ, List.set_cons_zero]))
  ((apply rel.walk_val; (focus (intro wq hq hf; (have d0 := (hq.cell (p := ⟨k, 3, none⟩) hk).trans k3); go_wp2; refine ⟨hq, Below.refl _ _, ?_, rfl⟩; (show rel.slot _ _ = _; simp only [rel.slot_lit, List.getD_cons_succ, List.getD_cons_zero]; (first | done | exact rfl)))); (simp only [rel.put_lit, List.set_cons_succ, List.set_cons_zero])))
  (apply rel.walk_rel (fun u w' => sch.IsT w' u (.node v 0 s j)) ⟨_, rfl⟩ (fun u w1 w2 h1 h2 => h2.on h1); (focus (intro wq hq hf; go_wp2_with (go_at_call 86; with_reducible refine (o2 _ hq).mono ?_; rintro e w'' ⟨⟨u, rfl, hu⟩, hb⟩); refine ⟨hq.trans (hb.mono hq.size), hb, ?_, rfl⟩; (show sch.IsT _ (rel.slot _ _) _; simp only [rel.slot_lit, List.getD_cons_succ, List.getD_cons_zero]; exact hu))); (intro u wu _ hu; obtain ⟨pt, rfl, -⟩ := hu; (simp only [rel.put_lit, List.set_cons_succ, List.set_cons_zero])))
  (apply rel.walk_rel (fun u w' => sch.IsT w' u (.node z 1 (.node x 0 (.node y 1 c d) r) (.node v 0 s j))) ⟨_, rfl⟩ (fun u w1 w2 h1 h2 => h2.on h1); (focus (intro wq hq hf; go_wp2_with (go_at_call 86; with_reducible refine (o3 _ _ _ (hf.get 1 rfl rfl) (hf.get 0 rfl rfl)).mono ?_; rintro e w'' ⟨⟨u, rfl, hu⟩, hb⟩); refine ⟨hq.trans (hb.mono hq.size), hb, ?_, rfl⟩; (show sch.IsT _ (rel.slot _ _) _; simp only [rel.slot_lit, List.getD_cons_succ, List.getD_cons_zero]; exact hu))); (intro u wu _ hu; obtain ⟨pz, rfl, -⟩ := hu; (simp only [rel.put_lit, List.set_cons_succ, List.set_cons_zero])))
  refine rel.walk_nil ?_
  intro w9 K9 hF
  have hu : IsT w9 (.pointer pz) _ := hF _ (List.mem_cons_self ..)
  clear hF
  simp only [List.drop_succ_cons, List.drop_zero]
  go_wp2
  go_ret
  exact ⟨⟨_, rfl, hu⟩, K9⟩

set_option maxHeartbeats 8000000 in
theorem bal_red_red {x y v : Int} {c d i j : Tr} {p q : Option Addr} {w : World} (ha : IsT w (.pointer p) (.node y 1 c d)) (hb : IsT w (.pointer q) (.node v 1 i j)) (nc : top c ≠ 1) (nd : top d ≠ 1) (ne : top i ≠ 1) (nf : top j ≠ 1) :
    Calls Try.prog 87 #[.int .i64 x, .pointer p, .pointer q] w fun e w' => (∃ u, e = .returned u ∧ IsT w' u (.node x 0 (.node y 1 c d) (.node v 1 i j))) ∧ Below w.heap.size w w' := by
  have ra := fun W (hW : Below w.heap.size w W) => isRed_any (b := true) (ha.nod.grow hW hW.size) rfl
  have rb := fun W (hW : Below w.heap.size w W) => isRed_any (b := true) (hb.nod.grow hW hW.size) rfl
  have ha0 := ha
  have hb0 := hb
  obtain ⟨_, he, g, gc, gd, rfl, hg, hgv, hgc, hgd⟩ := ha
  cases he
  have g0 := hgv.cell 0
  have g2 := hgv.cell 2
  have g3 := hgv.cell 3
  simp only [List.getElem?_cons_zero, List.getElem?_cons_succ] at g0 g2 g3
  have rc := fun W (hW : Below w.heap.size w W) => isRed_any (b := false) (hgc.grow hW hW.size) (decide_eq_false nc).symm
  have rd := fun W (hW : Below w.heap.size w W) => isRed_any (b := false) (hgd.grow hW hW.size) (decide_eq_false nd).symm
  obtain ⟨_, he, k, kc, kd, rfl, hk, hkv, hkc, hkd⟩ := hb
  cases he
  have k0 := hkv.cell 0
  have k2 := hkv.cell 2
  have k3 := hkv.cell 3
  simp only [List.getElem?_cons_zero, List.getElem?_cons_succ] at k0 k2 k3
  have rf := fun W (hW : Below w.heap.size w W) => isRed_any (b := false) (hkd.grow hW hW.size) (decide_eq_false nf).symm
  have re := fun W (hW : Below w.heap.size w W) => isRed_any (b := false) (hkc.grow hW hW.size) (decide_eq_false ne).symm
  have o1 := over_any (m := 0) (x := x) ha0 hb0
  have K := Below.refl w.heap.size w
  clear ha0 hb0 hgv hgc hgd hkv hkc hkd nc nd ne nf
  go_enter Try.func87, Try.ntmps87
  go_wp2_with (first
    | (go_at_call 90; with_reducible refine (ra _ K).mono ?_; rintro e w1 ⟨rfl, rfl⟩)
    | (go_at_call 90; with_reducible refine (rb _ K).mono ?_; rintro e w1 ⟨rfl, rfl⟩)
    | (go_at_call 90; with_reducible refine (rc _ K).mono ?_; rintro e w1 ⟨rfl, rfl⟩)
    | (go_at_call 90; with_reducible refine (rd _ K).mono ?_; rintro e w1 ⟨rfl, rfl⟩)
    | (go_at_call 90; with_reducible refine (rf _ K).mono ?_; rintro e w1 ⟨rfl, rfl⟩)
    | (go_at_call 90; with_reducible refine (re _ K).mono ?_; rintro e w1 ⟨rfl, rfl⟩)
    | (go_at_call 86; with_reducible refine o1.mono ?_; clear o1; rintro e w1 ⟨⟨u, rfl, hu⟩, hb1⟩))
  go_ret
  exact ⟨⟨_, rfl, hu⟩, hb1⟩

set_option maxHeartbeats 8000000 in
theorem bal_red_any {x y : Int} {c d b : Tr} {p q : Option Addr} {w : World} (ha : IsT w (.pointer p) (.node y 1 c d)) (hb : IsT w (.pointer q) b) (nc : top c ≠ 1) (nd : top d ≠ 1) (nb : top b ≠ 1) :
    Calls Try.prog 87 #[.int .i64 x, .pointer p, .pointer q] w fun e w' => (∃ u, e = .returned u ∧ IsT w' u (.node x 0 (.node y 1 c d) b)) ∧ Below w.heap.size w w' := by
  have ra := fun W (hW : Below w.heap.size w W) => isRed_any (b := true) (ha.nod.grow hW hW.size) rfl
  have rb := fun W (hW : Below w.heap.size w W) => isRed_any (b := false) (hb.nod.grow hW hW.size) (decide_eq_false nb).symm
  have ha0 := ha
  have hb0 := hb
  obtain ⟨_, he, g, gc, gd, rfl, hg, hgv, hgc, hgd⟩ := ha
  cases he
  have g0 := hgv.cell 0
  have g2 := hgv.cell 2
  have g3 := hgv.cell 3
  simp only [List.getElem?_cons_zero, List.getElem?_cons_succ] at g0 g2 g3
  have rc := fun W (hW : Below w.heap.size w W) => isRed_any (b := false) (hgc.grow hW hW.size) (decide_eq_false nc).symm
  have rd := fun W (hW : Below w.heap.size w W) => isRed_any (b := false) (hgd.grow hW hW.size) (decide_eq_false nd).symm
  have o1 := over_any (m := 0) (x := x) ha0 hb0
  have K := Below.refl w.heap.size w
  clear ha0 hb0 hgv hgc hgd hb nc nd nb
  go_enter Try.func87, Try.ntmps87
  go_wp2_with (first
    | (go_at_call 90; with_reducible refine (ra _ K).mono ?_; rintro e w1 ⟨rfl, rfl⟩)
    | (go_at_call 90; with_reducible refine (rb _ K).mono ?_; rintro e w1 ⟨rfl, rfl⟩)
    | (go_at_call 90; with_reducible refine (rc _ K).mono ?_; rintro e w1 ⟨rfl, rfl⟩)
    | (go_at_call 90; with_reducible refine (rd _ K).mono ?_; rintro e w1 ⟨rfl, rfl⟩)
    | (go_at_call 86; with_reducible refine o1.mono ?_; clear o1; rintro e w1 ⟨⟨u, rfl, hu⟩, hb1⟩))
  go_ret
  exact ⟨⟨_, rfl, hu⟩, hb1⟩

theorem not_dbl2 (t : Tr) (h : ¬ Dbl t) : top t ≠ 1 ∨ ∃ y c d, t = .node y 1 c d ∧ top c ≠ 1 ∧ top d ≠ 1 := by
  by_cases h1 : top t = 1
  · obtain ⟨y, c, d, rfl⟩ := top_one h1
    obtain ⟨h2, h3⟩ := not_dbl h
    exact .inr ⟨y, c, d, rfl, fun e => h2 ⟨rfl, e⟩, fun e => h3 ⟨rfl, e⟩⟩
  · exact .inl h1
theorem balanced_any {x : Int} {a b : Tr} {p q : Option Addr} {w : World} (ha : IsT w (.pointer p) a) (hb : IsT w (.pointer q) b) :
    Calls Try.prog 87 #[.int .i64 x, .pointer p, .pointer q] w fun e w' => (∃ u, e = .returned u ∧ IsT w' u (bal x a b)) ∧ Below w.heap.size w w' := by
  rcases dbl_left a with ⟨y, z, r, s, d, rfl⟩ | ⟨y, c, z, r, s, rfl, hc⟩ | na
  · rw [bal_one]; exact bal_L ha hb
  · rw [bal_two _ _ _ _ _ _ hc]; exact bal_R ha hb hc
  rcases dbl_right b with ⟨y, c, z, r, s, rfl⟩ | ⟨y, z, r, s, d, rfl, hd⟩ | nb
  · rw [bal_three _ _ _ _ _ _ na]
    rcases not_dbl2 a na with h | ⟨v, e, f, rfl, h1, h2⟩
    · exact bal_any_R ha hb h
    · exact bal_red_R ha hb h1 h2
  · rw [bal_four _ _ _ _ _ na hd]
    rcases not_dbl2 a na with h | ⟨v, e, f, rfl, h1, h2⟩
    · exact bal_any_L ha hb h hd
    · exact bal_red_L ha hb h1 h2 hd
  · rw [bal_five _ na nb]
    rcases not_dbl2 a na with h | ⟨v, e, f, rfl, h1, h2⟩ <;> rcases not_dbl2 b nb with h' | ⟨v', e', f', rfl, h1', h2'⟩
    · exact bal_any_any ha hb h h'
    · exact bal_any_red ha hb h h1' h2'
    · exact bal_red_any ha hb h1 h2 h'
    · exact bal_red_red ha hb h1 h2 h1' h2'

end Go.Proofs.Ytlaflhnnddfkkaa.red
