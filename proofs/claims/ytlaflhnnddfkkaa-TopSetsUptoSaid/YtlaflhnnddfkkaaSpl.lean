/- Package splay: over, below, raised, splayed. -/
import Derived.Test.YtlaflhnnddfkkaaSplTr
import Derived.Test.YtlaflhnnddfkkaaSchLeast
namespace Go.Proofs.Ytlaflhnnddfkkaa.spl
open Go Go.RowKit
open Go.Proofs.Ytlaflhnnddfkkaa.sch

set_option maxHeartbeats 4000000 in
theorem over_any {x : Int} {a b : Tr} {p q : Option Addr} {w : World} (ha : IsT w (.pointer p) a) (hb : IsT w (.pointer q) b) :
    Calls Try.prog 51 #[.int .i64 x, .pointer p, .pointer q] w fun e w' => (∃ u, e = .returned u ∧ IsT w' u (.node x 0 a b)) ∧ Below w.heap.size w w' := by
  have hdone : Hid (∀ (W : World) (G : Nat), Below w.heap.size w W → hp.Blk W G tyT [.int .i64 x, .int .i64 0, .pointer p, .pointer q] → IsT W (.pointer (some ⟨G, 0, none⟩)) (.node x 0 a b)) := by
    intro W G hW hG
    exact ⟨_, rfl, G, p, q, rfl, hG.lt, hG, ha.nod.grow hW hW.size, hb.nod.grow hW hW.size⟩
  clear ha hb
  go_enter Try.func51, Try.ntmps51
  go_wp2_with fail
  go_ret
  have hb0 := (Below.refl w.heap.size w).alloc (Nat.le_refl _) (.cells #[.int .i64 x, .int .i64 0, .pointer p, .pointer q] tyT)
  exact ⟨⟨_, rfl, hdone.out _ _ hb0 (hp.Blk.newAt (cs := [.int .i64 x, .int .i64 0, .pointer p, .pointer q]) rfl)⟩, hb0⟩

/-- the tree below, on the way to x -/
def bel (x : Int) : Tr → Tr
  | .nil => .nil
  | .node y _ l r => if x < y then l else if y < x then r else .nil
def bq (x y : Int) (c d : Option Addr) : Option Addr := if x < y then c else if y < x then d else none
theorem nod_bel {B : Nat} {W : World} {x y m : Int} {l r : Tr} {c d : Option Addr} (hl : Nod B W l c) (hr : Nod B W r d) : Nod B W (bel x (.node y m l r)) (bq x y c d) := by
  show Nod B W (if x < y then l else if y < x then r else .nil) (if x < y then c else if y < x then d else none)
  by_cases h1 : x < y
  · rw [if_pos h1, if_pos h1]; exact hl
  · by_cases h2 : y < x
    · rw [if_neg h1, if_neg h1, if_pos h2, if_pos h2]; exact hr
    · rw [if_neg h1, if_neg h1, if_neg h2, if_neg h2]; rfl

set_option maxHeartbeats 4000000 in
theorem below_any {x y m : Int} {g : Nat} {c d : Option Addr} {w : World} (hv : hp.Blk w g tyT [.int .i64 y, .int .i64 m, .pointer c, .pointer d]) :
    Calls Try.prog 69 #[.pointer (some ⟨g, 0, none⟩), .int .i64 x] w fun e w' => e = .returned (.pointer (bq x y c d)) ∧ w = w' := by
  have g0 := hv.cell 0
  have g2 := hv.cell 2
  have g3 := hv.cell 3
  have hg := hv.lt
  simp only [List.getElem?_cons_zero, List.getElem?_cons_succ] at g0 g2 g3
  clear hv
  by_cases h1 : x < y
  · rw [show bq x y c d = c by unfold bq; rw [if_pos h1]]
    go_enter Try.func69, Try.ntmps69
    go_wp2_with fail
    go_ret
    exact ⟨rfl, rfl⟩
  · by_cases h2 : y < x
    · rw [show bq x y c d = d by unfold bq; rw [if_neg h1, if_pos h2]]
      go_enter Try.func69, Try.ntmps69
      go_wp2_with fail
      go_ret
      exact ⟨rfl, rfl⟩
    · rw [show bq x y c d = none by unfold bq; rw [if_neg h1, if_neg h2]]
      go_enter Try.func69, Try.ntmps69
      go_wp2_with fail
      go_ret
      exact ⟨rfl, rfl⟩

set_option maxRecDepth 100000 in
set_option maxHeartbeats 16000000 in
theorem raised_any {k m : Int} {K : List Int} {t l r : Tr} {p : Option Addr} {st : Wt} {v : Value} {B : Nat} {w : World} (ht : t = .node k m l r) (hn : Nod w.heap.size w t p) (hU : Upw k K st l r) (hup : Up w st) (hrow : w.ownsRow B tyP 1 v st.length (ptrs st)) (hlen : st.length < 4611686018427387904) :
    Calls Try.prog 70 #[.pointer p, v] w fun e w' => (∃ u, e = .returned u ∧ IsG w' u (Top K k)) ∧ Below w.heap.size w w' := by
  subst ht
  obtain ⟨g, c, d, rfl, hg, hv, hl, hr⟩ := hn
  have g0 := hv.cell 0
  have g2 := hv.cell 2
  have g3 := hv.cell 3
  simp only [List.getElem?_cons_zero, List.getElem?_cons_succ] at g0 g2 g3
  go_enter Try.func70, Try.ntmps70
  go_wp2_with fail
  go_big_region
  go_wp2_with fail
  go_loopg [1, 6, 7] st.length (fun n u u1 u2 W' => ∃ (st' : Wt) (L R : Tr) (pl pr : Option Addr), u1 = .pointer pl ∧ u2 = .pointer pr ∧ Nod W'.heap.size W' L pl ∧ Nod W'.heap.size W' R pr ∧ Hid (Upw k K st' L R) ∧ Hid (Up w st') ∧ n = st'.length ∧ W'.ownsRow B tyP 1 u st'.length (ptrs st') ∧ Below w.heap.size w W' ∧ st'.length < 4611686018427387904)
  case atStart => exact ⟨st, l, r, c, d, rfl, rfl, hl.on ((Below.refl _ _).drew), hr.on ((Below.refl _ _).drew), hU, hup, rfl, hp.row_on hrow ((Below.refl _ _).drew), (Below.refl _ _).drew, hlen⟩
  case round =>
    clear hv hl hr hU hup hrow g0 g2 g3 hlen
    obtain ⟨st, L, R, pl, pr, rfl, rfl, hL, hR, hU, hup, hk, hrow, hb, hlen⟩ := hrel
    rcases st with _ | ⟨⟨pa, ta⟩, _ | ⟨⟨pb, tb⟩, st⟩⟩
    · have o1 := over_any (x := k) hL.t hR.t
      have hdone : Hid (∀ W u, IsT W u (.node k 0 L R) → IsG W u (Top K k)) := Lib.hid fun W u h => h.g hU.out.done
      (obtain ⟨a, c, rfl⟩ : ∃ a c, u1 = .slice a 0 c := by
        rcases hrow.2 with ⟨h, h0⟩ | ⟨g, cap, cur, h, _⟩
        · exact ⟨none, 0, h⟩
        · exact ⟨_, _, h⟩)
      clear hU hup hk hrow hL hR hlen
      go_wp2_with (go_at_call 51; (with_reducible refine o1.mono ?_); clear o1; rintro e w1 ⟨⟨u, rfl, hu⟩, hb1⟩; replace hu := hdone.out _ _ hu; clear hdone)
      go_ret
      exact ⟨⟨_, rfl, hu⟩, hb.trans (hb1.mono hb.size)⟩
    · obtain ⟨hna, hne⟩ := hup.out (pa, ta) (List.mem_cons_self ..)
      rcases ta with _ | ⟨y, my, al, ar⟩
      · exact absurd rfl hne
      obtain ⟨h, ac, ad, rfl, hh, hkt, hal, har⟩ := hna
      have hkr := hkt.below hb hh
      have h0 := hkr.cell 0
      have h2 := hkr.cell 2
      have h3 := hkr.cell 3
      simp only [List.getElem?_cons_zero, List.getElem?_cons_succ] at h0 h2 h3
      replace hh := Nat.lt_of_lt_of_le hh hb.size
      replace hal := hal.grow hb hb.size
      replace har := har.grow hb hb.size
      rw [ptrs_cons, List.length_cons, ← ptrs_len []] at hrow
      obtain ⟨g', cap, rfl, hcell, hcap, -⟩ := row_last hrow
      simp only [ptrs_len, List.length_nil, Nat.zero_add] at hcell hcap ⊢
      have hg' : g' < wr.heap.size := by
        have := hrow.lt g' (by simp [Value.ownBlock])
        exact this.2
      by_cases hx : k < y
      · have hU2 := hU.out.oneL hx 0
        have o1 := fun W (hW : Below wr.heap.size wr W) => over_any (x := y) (w := W) (hR.grow hW hW.size).t (har.grow hW hW.size).t
        have o2 := fun W q (hW : Below wr.heap.size wr W) (hq : IsT W (.pointer q) (.node y 0 R ar)) => over_any (x := k) (w := W) (hL.grow hW hW.size).t hq
        have hdone : Hid (∀ W u, IsT W u (.node k 0 L (.node y 0 R ar)) → IsG W u (Top K k)) := Lib.hid fun W u h => h.g hU2.done
        clear hU hup hk hrow hL hR hlen hkt hal har hkr hU2 hne
        go_wp2_with fail
        apply rel.region_tail (C := fun w' => Below wr.heap.size wr w') (X := fun w w' => Below w.heap.size w w') 10 (by kernel_rfl) (by kernel_rfl) (by kernel_rfl) (by kernel_rfl) ((Below.refl wr.heap.size wr).drew)
        (apply rel.walk_val; (focus (intro wq hq hf; go_wp2; refine ⟨hq, Below.refl _ _, ?_, rfl⟩; (show rel.slot _ _ = _; simp only [rel.slot_lit, List.getD_cons_succ, List.getD_cons_zero]; (first | done | exact rfl)))); (simp only [rel.put_lit, List.set_cons_succ, List.set_cons_zero]))
        (apply rel.walk_val; (focus (intro wq hq hf; go_wp2; refine ⟨hq, Below.refl _ _, ?_, rfl⟩; (show rel.slot _ _ = _; simp only [rel.slot_lit, List.getD_cons_succ, List.getD_cons_zero]; (first | done | exact rfl)))); (simp only [rel.put_lit, List.set_cons_succ, List.set_cons_zero]))
        (apply rel.walk_val; (focus (intro wq hq hf; go_wp2; refine ⟨hq, Below.refl _ _, ?_, rfl⟩; (show rel.slot _ _ = _; simp only [rel.slot_lit, List.getD_cons_succ, List.getD_cons_zero]; (first | done | exact rfl)))); (simp only [rel.put_lit, List.set_cons_succ, List.set_cons_zero]))
        ((apply rel.walk_val; (focus (intro wq hq hf; (have d0 := (hq.cell (p := ⟨h, 0, none⟩) hh).trans h0); go_wp2; refine ⟨hq, Below.refl _ _, ?_, rfl⟩; (show rel.slot _ _ = _; simp only [rel.slot_lit, List.getD_cons_succ, List.getD_cons_zero]; (first | done | exact rfl)))); (simp only [rel.put_lit, List.set_cons_succ, List.set_cons_zero])))
        (apply rel.walk_val; (focus (intro wq hq hf; go_wp2; refine ⟨hq, Below.refl _ _, ?_, rfl⟩; (show rel.slot _ _ = _; simp only [rel.slot_lit, List.getD_cons_succ, List.getD_cons_zero]; (first | done | exact rfl)))); (simp only [rel.put_lit, List.set_cons_succ, List.set_cons_zero]))
        (apply rel.walk_val; (focus (intro wq hq hf; go_wp2; refine ⟨hq, Below.refl _ _, ?_, rfl⟩; (show rel.slot _ _ = _; simp only [rel.slot_lit, List.getD_cons_succ, List.getD_cons_zero]; (first | done | exact rfl)))); (simp only [rel.put_lit, List.set_cons_succ, List.set_cons_zero]))
        (apply rel.walk_val; (focus (intro wq hq hf; go_wp2; refine ⟨hq, Below.refl _ _, ?_, rfl⟩; (show rel.slot _ _ = _; simp only [rel.slot_lit, List.getD_cons_succ, List.getD_cons_zero]; (first | done | exact rfl)))); (simp only [rel.put_lit, List.set_cons_succ, List.set_cons_zero]))
        (apply rel.walk_val; (focus (intro wq hq hf; go_wp2; refine ⟨hq, Below.refl _ _, ?_, rfl⟩; (show rel.slot _ _ = _; simp only [rel.slot_lit, List.getD_cons_succ, List.getD_cons_zero]; (first | done | exact rfl)))); (simp only [rel.put_lit, List.set_cons_succ, List.set_cons_zero]))
        ((apply rel.walk_val; (focus (intro wq hq hf; (have d0 := (hq.cell (p := ⟨h, 3, none⟩) hh).trans h3); go_wp2; refine ⟨hq, Below.refl _ _, ?_, rfl⟩; (show rel.slot _ _ = _; simp only [rel.slot_lit, List.getD_cons_succ, List.getD_cons_zero]; (first | done | exact rfl)))); (simp only [rel.put_lit, List.set_cons_succ, List.set_cons_zero])))
        (apply rel.walk_rel (fun u w' => sch.IsT w' u (.node y 0 R ar)) ⟨_, rfl⟩ (fun u w1 w2 h1 h2 => h2.on h1); (focus (intro wq hq hf; go_wp2_with (go_at_call 51; with_reducible refine (o1 _ hq).mono ?_; rintro e w'' ⟨⟨u, rfl, hu⟩, hb⟩); refine ⟨hq.trans (hb.mono hq.size), hb, ?_, rfl⟩; (show sch.IsT _ (rel.slot _ _) _; simp only [rel.slot_lit, List.getD_cons_succ, List.getD_cons_zero]; exact hu))); (intro u wu _ hu; obtain ⟨pz, rfl, -⟩ := hu; (simp only [rel.put_lit, List.set_cons_succ, List.set_cons_zero])))
        refine rel.walk_nil ?_
        intro w9 K9 hF
        have hu : IsT w9 (.pointer pz) (.node y 0 R ar) := hF _ (List.mem_cons_self ..)
        clear hF o1
        simp only [List.drop_succ_cons, List.drop_zero]
        replace o2 := o2 _ _ K9 hu
        go_wp2_with (go_at_call 51; (with_reducible refine o2.mono ?_); clear o2; rintro e w1 ⟨⟨u, rfl, hu2⟩, hb1⟩; replace hu2 := hdone.out _ _ hu2; clear hdone)
        go_ret
        exact ⟨⟨_, rfl, hu2⟩, (hb.trans (K9.mono hb.size)).trans (hb1.mono (Nat.le_trans hb.size K9.size))⟩
      · have hU2 := hU.out.oneR hx 0
        have hxy : y < k := by have := hU.out.sides.top; change y ≠ k at this; omega
        have o1 := fun W (hW : Below wr.heap.size wr W) => over_any (x := y) (w := W) (hal.grow hW hW.size).t (hL.grow hW hW.size).t
        have o2 := fun W q (hW : Below wr.heap.size wr W) (hq : IsT W (.pointer q) (.node y 0 al L)) => over_any (x := k) (w := W) hq (hR.grow hW hW.size).t
        have hdone : Hid (∀ W u, IsT W u (.node k 0 (.node y 0 al L) R) → IsG W u (Top K k)) := Lib.hid fun W u h => h.g hU2.done
        clear hU hup hk hrow hL hR hlen hkt hal har hkr hU2 hne
        go_wp2_with fail
        apply rel.region_tail (C := fun w' => Below wr.heap.size wr w') (X := fun w w' => Below w.heap.size w w') 10 (by kernel_rfl) (by kernel_rfl) (by kernel_rfl) (by kernel_rfl) ((Below.refl wr.heap.size wr).drew)
        (apply rel.walk_val; (focus (intro wq hq hf; go_wp2; refine ⟨hq, Below.refl _ _, ?_, rfl⟩; (show rel.slot _ _ = _; simp only [rel.slot_lit, List.getD_cons_succ, List.getD_cons_zero]; (first | done | exact rfl)))); (simp only [rel.put_lit, List.set_cons_succ, List.set_cons_zero]))
        (apply rel.walk_val; (focus (intro wq hq hf; go_wp2; refine ⟨hq, Below.refl _ _, ?_, rfl⟩; (show rel.slot _ _ = _; simp only [rel.slot_lit, List.getD_cons_succ, List.getD_cons_zero]; (first | done | exact rfl)))); (simp only [rel.put_lit, List.set_cons_succ, List.set_cons_zero]))
        (apply rel.walk_val; (focus (intro wq hq hf; go_wp2; refine ⟨hq, Below.refl _ _, ?_, rfl⟩; (show rel.slot _ _ = _; simp only [rel.slot_lit, List.getD_cons_succ, List.getD_cons_zero]; (first | done | exact rfl)))); (simp only [rel.put_lit, List.set_cons_succ, List.set_cons_zero]))
        ((apply rel.walk_val; (focus (intro wq hq hf; (have d0 := (hq.cell (p := ⟨h, 0, none⟩) hh).trans h0); go_wp2; refine ⟨hq, Below.refl _ _, ?_, rfl⟩; (show rel.slot _ _ = _; simp only [rel.slot_lit, List.getD_cons_succ, List.getD_cons_zero]; (first | done | exact rfl)))); (simp only [rel.put_lit, List.set_cons_succ, List.set_cons_zero])))
        (apply rel.walk_val; (focus (intro wq hq hf; go_wp2; refine ⟨hq, Below.refl _ _, ?_, rfl⟩; (show rel.slot _ _ = _; simp only [rel.slot_lit, List.getD_cons_succ, List.getD_cons_zero]; (first | done | exact rfl)))); (simp only [rel.put_lit, List.set_cons_succ, List.set_cons_zero]))
        (apply rel.walk_val; (focus (intro wq hq hf; go_wp2; refine ⟨hq, Below.refl _ _, ?_, rfl⟩; (show rel.slot _ _ = _; simp only [rel.slot_lit, List.getD_cons_succ, List.getD_cons_zero]; (first | done | exact rfl)))); (simp only [rel.put_lit, List.set_cons_succ, List.set_cons_zero]))
        (apply rel.walk_val; (focus (intro wq hq hf; go_wp2; refine ⟨hq, Below.refl _ _, ?_, rfl⟩; (show rel.slot _ _ = _; simp only [rel.slot_lit, List.getD_cons_succ, List.getD_cons_zero]; (first | done | exact rfl)))); (simp only [rel.put_lit, List.set_cons_succ, List.set_cons_zero]))
        ((apply rel.walk_val; (focus (intro wq hq hf; (have d0 := (hq.cell (p := ⟨h, 2, none⟩) hh).trans h2); go_wp2; refine ⟨hq, Below.refl _ _, ?_, rfl⟩; (show rel.slot _ _ = _; simp only [rel.slot_lit, List.getD_cons_succ, List.getD_cons_zero]; (first | done | exact rfl)))); (simp only [rel.put_lit, List.set_cons_succ, List.set_cons_zero])))
        (apply rel.walk_val; (focus (intro wq hq hf; go_wp2; refine ⟨hq, Below.refl _ _, ?_, rfl⟩; (show rel.slot _ _ = _; simp only [rel.slot_lit, List.getD_cons_succ, List.getD_cons_zero]; (first | done | exact rfl)))); (simp only [rel.put_lit, List.set_cons_succ, List.set_cons_zero]))
        (apply rel.walk_rel (fun u w' => sch.IsT w' u (.node y 0 al L)) ⟨_, rfl⟩ (fun u w1 w2 h1 h2 => h2.on h1); (focus (intro wq hq hf; go_wp2_with (go_at_call 51; with_reducible refine (o1 _ hq).mono ?_; rintro e w'' ⟨⟨u, rfl, hu⟩, hb⟩); refine ⟨hq.trans (hb.mono hq.size), hb, ?_, rfl⟩; (show sch.IsT _ (rel.slot _ _) _; simp only [rel.slot_lit, List.getD_cons_succ, List.getD_cons_zero]; exact hu))); (intro u wu _ hu; obtain ⟨pz, rfl, -⟩ := hu; (simp only [rel.put_lit, List.set_cons_succ, List.set_cons_zero])))
        refine rel.walk_nil ?_
        intro w9 K9 hF
        have hu : IsT w9 (.pointer pz) (.node y 0 al L) := hF _ (List.mem_cons_self ..)
        clear hF o1
        simp only [List.drop_succ_cons, List.drop_zero]
        replace o2 := o2 _ _ K9 hu
        go_wp2_with (go_at_call 51; (with_reducible refine o2.mono ?_); clear o2; rintro e w1 ⟨⟨u, rfl, hu2⟩, hb1⟩; replace hu2 := hdone.out _ _ hu2; clear hdone)
        go_ret
        exact ⟨⟨_, rfl, hu2⟩, (hb.trans (K9.mono hb.size)).trans (hb1.mono (Nat.le_trans hb.size K9.size))⟩
    · obtain ⟨hna, hne⟩ := hup.out (pa, ta) (List.mem_cons_self ..)
      obtain ⟨hnb, hnf⟩ := hup.out (pb, tb) (List.mem_cons_of_mem _ (List.mem_cons_self ..))
      have hst2 : Hid (Up w st) := Lib.hid fun y hy => hup.out y (List.mem_cons_of_mem _ (List.mem_cons_of_mem _ hy))
      rcases ta with _ | ⟨y, my, al, ar⟩
      · exact absurd rfl hne
      rcases tb with _ | ⟨z, mz, bl, br⟩
      · exact absurd rfl hnf
      obtain ⟨h, ac, ad, rfl, hh, hkt, hal, har⟩ := hna
      obtain ⟨i, bc, bd, rfl, hi, hkj, hbl, hbr⟩ := hnb
      have hkr := hkt.below hb hh
      have h0 := hkr.cell 0
      have h2 := hkr.cell 2
      have h3 := hkr.cell 3
      have hks := hkj.below hb hi
      have i0 := hks.cell 0
      have i2 := hks.cell 2
      have i3 := hks.cell 3
      simp only [List.getElem?_cons_zero, List.getElem?_cons_succ] at h0 h2 h3 i0 i2 i3
      replace hh := Nat.lt_of_lt_of_le hh hb.size
      replace hi := Nat.lt_of_lt_of_le hi hb.size
      replace hal := hal.grow hb hb.size
      replace har := har.grow hb hb.size
      replace hbl := hbl.grow hb hb.size
      replace hbr := hbr.grow hb hb.size
      rw [ptrs_cons, List.length_cons, ← ptrs_len (_ :: st)] at hrow
      obtain ⟨g', cap, rfl, hcell, hcap, hrow2⟩ := row_last hrow
      rw [ptrs_cons, List.length_append, List.length_singleton] at hrow2
      obtain ⟨g2, cap2, e2, hcell2, hcap2, hrow3⟩ := row_last hrow2
      simp only [Value.slice.injEq, Option.some.injEq, Addr.mk.injEq, true_and, and_true] at e2
      obtain ⟨rfl, -, rfl⟩ := e2
      have hg' : g' < wr.heap.size := (hrow.lt g' (by simp [Value.ownBlock])).2
      simp only [ptrs_len, List.length_cons] at hcell hcap hcell2 hcap2 hrow3 hlen hk ⊢
      have hst4 := fun W (hW : Below wr.heap.size wr W) => hp.row_on hrow3 hW
      obtain ⟨n, hnn⟩ : ∃ n, st.length = n := ⟨_, rfl⟩
      rw [hnn] at hcell hcap hcell2 hcap2 hst4 hlen hk ⊢
      subst hk
      have hn64 : n < 4611686018427387904 := by omega
      have hnn' := Lib.hid hnn
      clear hrow hrow2 hrow3 hup hne hnf hkt hkj hkr hks hlen hnn
      by_cases q1 : k < y ∧ y < z
      · obtain ⟨q1, q2⟩ := q1
        have hU2 := hU.out.ll q1 q2 0 0
        have o1 := fun W (hW : Below wr.heap.size wr W) => over_any (x := z) (w := W) (har.grow hW hW.size).t (hbr.grow hW hW.size).t
        have o2 := fun W q (hW : Below wr.heap.size wr W) (hq : IsT W (.pointer q) (.node z 0 ar br)) => over_any (x := y) (w := W) (hR.grow hW hW.size).t hq
        clear hU
        go_wp2_with fail
        go_big_region
        go_wp2_with fail
        go_big_region
        go_wp2_with fail
        apply rel.region_tail (C := fun w' => Below wr.heap.size wr w') (X := fun w w' => Below w.heap.size w w') 19 (by kernel_rfl) (by kernel_rfl) (by kernel_rfl) (by kernel_rfl) ((Below.refl wr.heap.size wr).drew.drew.drew)
        (apply rel.walk_val; (focus (intro wq hq hf; go_wp2; refine ⟨hq, Below.refl _ _, ?_, rfl⟩; (show rel.slot _ _ = _; simp only [rel.slot_lit, List.getD_cons_succ, List.getD_cons_zero]; (first | done | exact rfl)))); (simp only [rel.put_lit, List.set_cons_succ, List.set_cons_zero]))
        (apply rel.walk_val; (focus (intro wq hq hf; go_wp2; refine ⟨hq, Below.refl _ _, ?_, rfl⟩; (show rel.slot _ _ = _; simp only [rel.slot_lit, List.getD_cons_succ, List.getD_cons_zero]; (first | done | exact rfl)))); (simp only [rel.put_lit, List.set_cons_succ, List.set_cons_zero]))
        (apply rel.walk_val; (focus (intro wq hq hf; go_wp2; refine ⟨hq, Below.refl _ _, ?_, rfl⟩; (show rel.slot _ _ = _; simp only [rel.slot_lit, List.getD_cons_succ, List.getD_cons_zero]; (first | done | exact rfl)))); (simp only [rel.put_lit, List.set_cons_succ, List.set_cons_zero]))
        ((apply rel.walk_val; (focus (intro wq hq hf; (have d0 := (hq.cell (p := ⟨h, 0, none⟩) hh).trans h0); go_wp2; refine ⟨hq, Below.refl _ _, ?_, rfl⟩; (show rel.slot _ _ = _; simp only [rel.slot_lit, List.getD_cons_succ, List.getD_cons_zero]; (first | done | exact rfl)))); (simp only [rel.put_lit, List.set_cons_succ, List.set_cons_zero])))
        (apply rel.walk_val; (focus (intro wq hq hf; go_wp2; refine ⟨hq, Below.refl _ _, ?_, rfl⟩; (show rel.slot _ _ = _; simp only [rel.slot_lit, List.getD_cons_succ, List.getD_cons_zero]; (first | done | exact rfl)))); (simp only [rel.put_lit, List.set_cons_succ, List.set_cons_zero]))
        (apply rel.walk_val; (focus (intro wq hq hf; go_wp2; refine ⟨hq, Below.refl _ _, ?_, rfl⟩; (show rel.slot _ _ = _; simp only [rel.slot_lit, List.getD_cons_succ, List.getD_cons_zero]; (first | done | exact rfl)))); (simp only [rel.put_lit, List.set_cons_succ, List.set_cons_zero]))
        (apply rel.walk_val; (focus (intro wq hq hf; go_wp2; refine ⟨hq, Below.refl _ _, ?_, rfl⟩; (show rel.slot _ _ = _; simp only [rel.slot_lit, List.getD_cons_succ, List.getD_cons_zero]; (first | done | exact rfl)))); (simp only [rel.put_lit, List.set_cons_succ, List.set_cons_zero]))
        (apply rel.walk_val; (focus (intro wq hq hf; go_wp2; refine ⟨hq, Below.refl _ _, ?_, rfl⟩; (show rel.slot _ _ = _; simp only [rel.slot_lit, List.getD_cons_succ, List.getD_cons_zero]; (first | done | exact rfl)))); (simp only [rel.put_lit, List.set_cons_succ, List.set_cons_zero]))
        ((apply rel.walk_val; (focus (intro wq hq hf; (have d0 := (hq.cell (p := ⟨i, 0, none⟩) hi).trans i0); go_wp2; refine ⟨hq, Below.refl _ _, ?_, rfl⟩; (show rel.slot _ _ = _; simp only [rel.slot_lit, List.getD_cons_succ, List.getD_cons_zero]; (first | done | exact rfl)))); (simp only [rel.put_lit, List.set_cons_succ, List.set_cons_zero])))
        (apply rel.walk_val; (focus (intro wq hq hf; go_wp2; refine ⟨hq, Below.refl _ _, ?_, rfl⟩; (show rel.slot _ _ = _; simp only [rel.slot_lit, List.getD_cons_succ, List.getD_cons_zero]; (first | done | exact rfl)))); (simp only [rel.put_lit, List.set_cons_succ, List.set_cons_zero]))
        (apply rel.walk_val; (focus (intro wq hq hf; go_wp2; refine ⟨hq, Below.refl _ _, ?_, rfl⟩; (show rel.slot _ _ = _; simp only [rel.slot_lit, List.getD_cons_succ, List.getD_cons_zero]; (first | done | exact rfl)))); (simp only [rel.put_lit, List.set_cons_succ, List.set_cons_zero]))
        (apply rel.walk_val; (focus (intro wq hq hf; go_wp2; refine ⟨hq, Below.refl _ _, ?_, rfl⟩; (show rel.slot _ _ = _; simp only [rel.slot_lit, List.getD_cons_succ, List.getD_cons_zero]; (first | done | exact rfl)))); (simp only [rel.put_lit, List.set_cons_succ, List.set_cons_zero]))
        ((apply rel.walk_val; (focus (intro wq hq hf; (have d0 := (hq.cell (p := ⟨h, 3, none⟩) hh).trans h3); go_wp2; refine ⟨hq, Below.refl _ _, ?_, rfl⟩; (show rel.slot _ _ = _; simp only [rel.slot_lit, List.getD_cons_succ, List.getD_cons_zero]; (first | done | exact rfl)))); (simp only [rel.put_lit, List.set_cons_succ, List.set_cons_zero])))
        (apply rel.walk_val; (focus (intro wq hq hf; go_wp2; refine ⟨hq, Below.refl _ _, ?_, rfl⟩; (show rel.slot _ _ = _; simp only [rel.slot_lit, List.getD_cons_succ, List.getD_cons_zero]; (first | done | exact rfl)))); (simp only [rel.put_lit, List.set_cons_succ, List.set_cons_zero]))
        (apply rel.walk_val; (focus (intro wq hq hf; go_wp2; refine ⟨hq, Below.refl _ _, ?_, rfl⟩; (show rel.slot _ _ = _; simp only [rel.slot_lit, List.getD_cons_succ, List.getD_cons_zero]; (first | done | exact rfl)))); (simp only [rel.put_lit, List.set_cons_succ, List.set_cons_zero]))
        (apply rel.walk_val; (focus (intro wq hq hf; go_wp2; refine ⟨hq, Below.refl _ _, ?_, rfl⟩; (show rel.slot _ _ = _; simp only [rel.slot_lit, List.getD_cons_succ, List.getD_cons_zero]; (first | done | exact rfl)))); (simp only [rel.put_lit, List.set_cons_succ, List.set_cons_zero]))
        ((apply rel.walk_val; (focus (intro wq hq hf; (have d0 := (hq.cell (p := ⟨i, 3, none⟩) hi).trans i3); go_wp2; refine ⟨hq, Below.refl _ _, ?_, rfl⟩; (show rel.slot _ _ = _; simp only [rel.slot_lit, List.getD_cons_succ, List.getD_cons_zero]; (first | done | exact rfl)))); (simp only [rel.put_lit, List.set_cons_succ, List.set_cons_zero])))
        (apply rel.walk_rel (fun u w' => sch.IsT w' u (.node z 0 ar br)) ⟨_, rfl⟩ (fun u w1 w2 h1 h2 => h2.on h1); (focus (intro wq hq hf; go_wp2_with (go_at_call 51; with_reducible refine (o1 _ hq).mono ?_; rintro e w'' ⟨⟨u, rfl, hu⟩, hb⟩); refine ⟨hq.trans (hb.mono hq.size), hb, ?_, rfl⟩; (show sch.IsT _ (rel.slot _ _) _; simp only [rel.slot_lit, List.getD_cons_succ, List.getD_cons_zero]; exact hu))); (intro u wu _ hu; obtain ⟨pu, rfl, -⟩ := hu; (simp only [rel.put_lit, List.set_cons_succ, List.set_cons_zero])))
        (apply rel.walk_rel (fun u w' => sch.IsT w' u (.node y 0 R (.node z 0 ar br))) ⟨_, rfl⟩ (fun u w1 w2 h1 h2 => h2.on h1); (focus (intro wq hq hf; go_wp2_with (go_at_call 51; with_reducible refine (o2 _ _ hq (hf.get 0 rfl rfl)).mono ?_; rintro e w'' ⟨⟨u, rfl, hu⟩, hb⟩); refine ⟨hq.trans (hb.mono hq.size), hb, ?_, rfl⟩; (show sch.IsT _ (rel.slot _ _) _; simp only [rel.slot_lit, List.getD_cons_succ, List.getD_cons_zero]; exact hu))); (intro u wu _ hu; obtain ⟨pz, rfl, -⟩ := hu; (simp only [rel.put_lit, List.set_cons_succ, List.set_cons_zero])))
        refine rel.walk_nil ?_
        intro w9 K9 hF
        have hu : IsT w9 (.pointer pz) (.node y 0 R (.node z 0 ar br)) := hF _ (List.mem_cons_self ..)
        have hr9 := hst4 _ K9
        have hb9 := hb.trans (K9.mono hb.size)
        have n1 := hL.grow K9 K9.size
        have n2 := hu.nod
        clear hF o1 o2 hst4 hb hL hR hal har hbl hbr
        simp only [List.drop_succ_cons, List.drop_zero]
        go_wp2_with fail
        go_roundg n
        case measure => omega
        case rel => exact ⟨st, _, _, _, _, rfl, rfl, n1, n2, hU2, hst2, hnn'.out.symm, by rw [hnn'.out]; exact hr9, hb9, by rw [hnn'.out]; exact hn64⟩
      by_cases q2 : z < y ∧ y < k
      · obtain ⟨q2, q3⟩ := q2
        have hU2 := hU.out.rr q2 q3 0 0
        have q4 : ¬ k < y := by omega
        have q6 : y ≤ k := by omega
        have o1 := fun W (hW : Below wr.heap.size wr W) => over_any (x := z) (w := W) (hbl.grow hW hW.size).t (hal.grow hW hW.size).t
        have o2 := fun W q (hW : Below wr.heap.size wr W) (hq : IsT W (.pointer q) (.node z 0 bl al)) => over_any (x := y) (w := W) hq (hL.grow hW hW.size).t
        clear q1
        clear hU
        go_wp2_with fail
        have q9 : ¬ k < y := Int.not_lt.2 q6
        go_big_region
        go_wp2_with fail
        have q9 : ¬ k < y := Int.not_lt.2 q6
        go_big_region
        go_wp2_with fail
        have q9 : ¬ k < y := Int.not_lt.2 q6
        go_big_region
        go_wp2_with fail
        apply rel.region_tail (C := fun w' => Below wr.heap.size wr w') (X := fun w w' => Below w.heap.size w w') 19 (by kernel_rfl) (by kernel_rfl) (by kernel_rfl) (by kernel_rfl) ((Below.refl wr.heap.size wr).drew.drew.drew.drew)
        (apply rel.walk_val; (focus (intro wq hq hf; go_wp2; refine ⟨hq, Below.refl _ _, ?_, rfl⟩; (show rel.slot _ _ = _; simp only [rel.slot_lit, List.getD_cons_succ, List.getD_cons_zero]; (first | done | exact rfl)))); (simp only [rel.put_lit, List.set_cons_succ, List.set_cons_zero]))
        (apply rel.walk_val; (focus (intro wq hq hf; go_wp2; refine ⟨hq, Below.refl _ _, ?_, rfl⟩; (show rel.slot _ _ = _; simp only [rel.slot_lit, List.getD_cons_succ, List.getD_cons_zero]; (first | done | exact rfl)))); (simp only [rel.put_lit, List.set_cons_succ, List.set_cons_zero]))
        (apply rel.walk_val; (focus (intro wq hq hf; go_wp2; refine ⟨hq, Below.refl _ _, ?_, rfl⟩; (show rel.slot _ _ = _; simp only [rel.slot_lit, List.getD_cons_succ, List.getD_cons_zero]; (first | done | exact rfl)))); (simp only [rel.put_lit, List.set_cons_succ, List.set_cons_zero]))
        ((apply rel.walk_val; (focus (intro wq hq hf; (have d0 := (hq.cell (p := ⟨h, 0, none⟩) hh).trans h0); go_wp2; refine ⟨hq, Below.refl _ _, ?_, rfl⟩; (show rel.slot _ _ = _; simp only [rel.slot_lit, List.getD_cons_succ, List.getD_cons_zero]; (first | done | exact rfl)))); (simp only [rel.put_lit, List.set_cons_succ, List.set_cons_zero])))
        (apply rel.walk_val; (focus (intro wq hq hf; go_wp2; refine ⟨hq, Below.refl _ _, ?_, rfl⟩; (show rel.slot _ _ = _; simp only [rel.slot_lit, List.getD_cons_succ, List.getD_cons_zero]; (first | done | exact rfl)))); (simp only [rel.put_lit, List.set_cons_succ, List.set_cons_zero]))
        (apply rel.walk_val; (focus (intro wq hq hf; go_wp2; refine ⟨hq, Below.refl _ _, ?_, rfl⟩; (show rel.slot _ _ = _; simp only [rel.slot_lit, List.getD_cons_succ, List.getD_cons_zero]; (first | done | exact rfl)))); (simp only [rel.put_lit, List.set_cons_succ, List.set_cons_zero]))
        (apply rel.walk_val; (focus (intro wq hq hf; go_wp2; refine ⟨hq, Below.refl _ _, ?_, rfl⟩; (show rel.slot _ _ = _; simp only [rel.slot_lit, List.getD_cons_succ, List.getD_cons_zero]; (first | done | exact rfl)))); (simp only [rel.put_lit, List.set_cons_succ, List.set_cons_zero]))
        ((apply rel.walk_val; (focus (intro wq hq hf; (have d0 := (hq.cell (p := ⟨i, 0, none⟩) hi).trans i0); go_wp2; refine ⟨hq, Below.refl _ _, ?_, rfl⟩; (show rel.slot _ _ = _; simp only [rel.slot_lit, List.getD_cons_succ, List.getD_cons_zero]; (first | done | exact rfl)))); (simp only [rel.put_lit, List.set_cons_succ, List.set_cons_zero])))
        (apply rel.walk_val; (focus (intro wq hq hf; go_wp2; refine ⟨hq, Below.refl _ _, ?_, rfl⟩; (show rel.slot _ _ = _; simp only [rel.slot_lit, List.getD_cons_succ, List.getD_cons_zero]; (first | done | exact rfl)))); (simp only [rel.put_lit, List.set_cons_succ, List.set_cons_zero]))
        (apply rel.walk_val; (focus (intro wq hq hf; go_wp2; refine ⟨hq, Below.refl _ _, ?_, rfl⟩; (show rel.slot _ _ = _; simp only [rel.slot_lit, List.getD_cons_succ, List.getD_cons_zero]; (first | done | exact rfl)))); (simp only [rel.put_lit, List.set_cons_succ, List.set_cons_zero]))
        (apply rel.walk_val; (focus (intro wq hq hf; go_wp2; refine ⟨hq, Below.refl _ _, ?_, rfl⟩; (show rel.slot _ _ = _; simp only [rel.slot_lit, List.getD_cons_succ, List.getD_cons_zero]; (first | done | exact rfl)))); (simp only [rel.put_lit, List.set_cons_succ, List.set_cons_zero]))
        ((apply rel.walk_val; (focus (intro wq hq hf; (have d0 := (hq.cell (p := ⟨i, 2, none⟩) hi).trans i2); go_wp2; refine ⟨hq, Below.refl _ _, ?_, rfl⟩; (show rel.slot _ _ = _; simp only [rel.slot_lit, List.getD_cons_succ, List.getD_cons_zero]; (first | done | exact rfl)))); (simp only [rel.put_lit, List.set_cons_succ, List.set_cons_zero])))
        (apply rel.walk_val; (focus (intro wq hq hf; go_wp2; refine ⟨hq, Below.refl _ _, ?_, rfl⟩; (show rel.slot _ _ = _; simp only [rel.slot_lit, List.getD_cons_succ, List.getD_cons_zero]; (first | done | exact rfl)))); (simp only [rel.put_lit, List.set_cons_succ, List.set_cons_zero]))
        (apply rel.walk_val; (focus (intro wq hq hf; go_wp2; refine ⟨hq, Below.refl _ _, ?_, rfl⟩; (show rel.slot _ _ = _; simp only [rel.slot_lit, List.getD_cons_succ, List.getD_cons_zero]; (first | done | exact rfl)))); (simp only [rel.put_lit, List.set_cons_succ, List.set_cons_zero]))
        (apply rel.walk_val; (focus (intro wq hq hf; go_wp2; refine ⟨hq, Below.refl _ _, ?_, rfl⟩; (show rel.slot _ _ = _; simp only [rel.slot_lit, List.getD_cons_succ, List.getD_cons_zero]; (first | done | exact rfl)))); (simp only [rel.put_lit, List.set_cons_succ, List.set_cons_zero]))
        ((apply rel.walk_val; (focus (intro wq hq hf; (have d0 := (hq.cell (p := ⟨h, 2, none⟩) hh).trans h2); go_wp2; refine ⟨hq, Below.refl _ _, ?_, rfl⟩; (show rel.slot _ _ = _; simp only [rel.slot_lit, List.getD_cons_succ, List.getD_cons_zero]; (first | done | exact rfl)))); (simp only [rel.put_lit, List.set_cons_succ, List.set_cons_zero])))
        (apply rel.walk_rel (fun u w' => sch.IsT w' u (.node z 0 bl al)) ⟨_, rfl⟩ (fun u w1 w2 h1 h2 => h2.on h1); (focus (intro wq hq hf; go_wp2_with (go_at_call 51; with_reducible refine (o1 _ hq).mono ?_; rintro e w'' ⟨⟨u, rfl, hu⟩, hb⟩); refine ⟨hq.trans (hb.mono hq.size), hb, ?_, rfl⟩; (show sch.IsT _ (rel.slot _ _) _; simp only [rel.slot_lit, List.getD_cons_succ, List.getD_cons_zero]; exact hu))); (intro u wu _ hu; obtain ⟨pu, rfl, -⟩ := hu; (simp only [rel.put_lit, List.set_cons_succ, List.set_cons_zero])))
        (apply rel.walk_val; (focus (intro wq hq hf; go_wp2; refine ⟨hq, Below.refl _ _, ?_, rfl⟩; (show rel.slot _ _ = _; simp only [rel.slot_lit, List.getD_cons_succ, List.getD_cons_zero]; (first | done | exact rfl)))); (simp only [rel.put_lit, List.set_cons_succ, List.set_cons_zero]))
        (apply rel.walk_rel (fun u w' => sch.IsT w' u (.node y 0 (.node z 0 bl al) L)) ⟨_, rfl⟩ (fun u w1 w2 h1 h2 => h2.on h1); (focus (intro wq hq hf; go_wp2_with (go_at_call 51; with_reducible refine (o2 _ _ hq (hf.get 0 rfl rfl)).mono ?_; rintro e w'' ⟨⟨u, rfl, hu⟩, hb⟩); refine ⟨hq.trans (hb.mono hq.size), hb, ?_, rfl⟩; (show sch.IsT _ (rel.slot _ _) _; simp only [rel.slot_lit, List.getD_cons_succ, List.getD_cons_zero]; exact hu))); (intro u wu _ hu; obtain ⟨pz, rfl, -⟩ := hu; (simp only [rel.put_lit, List.set_cons_succ, List.set_cons_zero])))
        refine rel.walk_nil ?_
        intro w9 K9 hF
        have hu : IsT w9 (.pointer pz) (.node y 0 (.node z 0 bl al) L) := hF _ (List.mem_cons_self ..)
        have hr9 := hst4 _ K9
        have hb9 := hb.trans (K9.mono hb.size)
        have n1 := hu.nod
        have n2 := hR.grow K9 K9.size
        clear hF o1 o2 hst4 hb hL hR hal har hbl hbr
        simp only [List.drop_succ_cons, List.drop_zero]
        go_wp2_with fail
        go_roundg n
        case measure => omega
        case rel => exact ⟨st, _, _, _, _, rfl, rfl, n1, n2, hU2, hst2, hnn'.out.symm, by rw [hnn'.out]; exact hr9, hb9, by rw [hnn'.out]; exact hn64⟩
      by_cases q3 : k < y
      · have q4 : ¬ y < z := fun h => q1 ⟨q3, h⟩
        have q5 : ¬ y < k := by omega
        have hU2 := hU.out.lr q3 q4 0 0
        have q6 : z < y := by have := hU.out.sides.two.1; change z ≠ y at this; omega
        have o1 := fun W (hW : Below wr.heap.size wr W) => over_any (x := z) (w := W) (hbl.grow hW hW.size).t (hL.grow hW hW.size).t
        have o2 := fun W (hW : Below wr.heap.size wr W) => over_any (x := y) (w := W) (hR.grow hW hW.size).t (har.grow hW hW.size).t
        clear q1 q2
        clear hU
        go_wp2_with fail
        go_big_region
        go_wp2_with fail
        go_big_region
        go_wp2_with fail
        go_big_region
        go_wp2_with fail
        apply rel.region_tail (C := fun w' => Below wr.heap.size wr w') (X := fun w w' => Below w.heap.size w w') 21 (by kernel_rfl) (by kernel_rfl) (by kernel_rfl) (by kernel_rfl) ((Below.refl wr.heap.size wr).drew.drew.drew.drew)
        (apply rel.walk_val; (focus (intro wq hq hf; go_wp2; refine ⟨hq, Below.refl _ _, ?_, rfl⟩; (show rel.slot _ _ = _; simp only [rel.slot_lit, List.getD_cons_succ, List.getD_cons_zero]; (first | done | exact rfl)))); (simp only [rel.put_lit, List.set_cons_succ, List.set_cons_zero]))
        (apply rel.walk_val; (focus (intro wq hq hf; go_wp2; refine ⟨hq, Below.refl _ _, ?_, rfl⟩; (show rel.slot _ _ = _; simp only [rel.slot_lit, List.getD_cons_succ, List.getD_cons_zero]; (first | done | exact rfl)))); (simp only [rel.put_lit, List.set_cons_succ, List.set_cons_zero]))
        (apply rel.walk_val; (focus (intro wq hq hf; go_wp2; refine ⟨hq, Below.refl _ _, ?_, rfl⟩; (show rel.slot _ _ = _; simp only [rel.slot_lit, List.getD_cons_succ, List.getD_cons_zero]; (first | done | exact rfl)))); (simp only [rel.put_lit, List.set_cons_succ, List.set_cons_zero]))
        ((apply rel.walk_val; (focus (intro wq hq hf; (have d0 := (hq.cell (p := ⟨i, 0, none⟩) hi).trans i0); go_wp2; refine ⟨hq, Below.refl _ _, ?_, rfl⟩; (show rel.slot _ _ = _; simp only [rel.slot_lit, List.getD_cons_succ, List.getD_cons_zero]; (first | done | exact rfl)))); (simp only [rel.put_lit, List.set_cons_succ, List.set_cons_zero])))
        (apply rel.walk_val; (focus (intro wq hq hf; go_wp2; refine ⟨hq, Below.refl _ _, ?_, rfl⟩; (show rel.slot _ _ = _; simp only [rel.slot_lit, List.getD_cons_succ, List.getD_cons_zero]; (first | done | exact rfl)))); (simp only [rel.put_lit, List.set_cons_succ, List.set_cons_zero]))
        (apply rel.walk_val; (focus (intro wq hq hf; go_wp2; refine ⟨hq, Below.refl _ _, ?_, rfl⟩; (show rel.slot _ _ = _; simp only [rel.slot_lit, List.getD_cons_succ, List.getD_cons_zero]; (first | done | exact rfl)))); (simp only [rel.put_lit, List.set_cons_succ, List.set_cons_zero]))
        (apply rel.walk_val; (focus (intro wq hq hf; go_wp2; refine ⟨hq, Below.refl _ _, ?_, rfl⟩; (show rel.slot _ _ = _; simp only [rel.slot_lit, List.getD_cons_succ, List.getD_cons_zero]; (first | done | exact rfl)))); (simp only [rel.put_lit, List.set_cons_succ, List.set_cons_zero]))
        ((apply rel.walk_val; (focus (intro wq hq hf; (have d0 := (hq.cell (p := ⟨i, 2, none⟩) hi).trans i2); go_wp2; refine ⟨hq, Below.refl _ _, ?_, rfl⟩; (show rel.slot _ _ = _; simp only [rel.slot_lit, List.getD_cons_succ, List.getD_cons_zero]; (first | done | exact rfl)))); (simp only [rel.put_lit, List.set_cons_succ, List.set_cons_zero])))
        (apply rel.walk_val; (focus (intro wq hq hf; go_wp2; refine ⟨hq, Below.refl _ _, ?_, rfl⟩; (show rel.slot _ _ = _; simp only [rel.slot_lit, List.getD_cons_succ, List.getD_cons_zero]; (first | done | exact rfl)))); (simp only [rel.put_lit, List.set_cons_succ, List.set_cons_zero]))
        (apply rel.walk_rel (fun u w' => sch.IsT w' u (.node z 0 bl L)) ⟨_, rfl⟩ (fun u w1 w2 h1 h2 => h2.on h1); (focus (intro wq hq hf; go_wp2_with (go_at_call 51; with_reducible refine (o1 _ hq).mono ?_; rintro e w'' ⟨⟨u, rfl, hu⟩, hb⟩); refine ⟨hq.trans (hb.mono hq.size), hb, ?_, rfl⟩; (show sch.IsT _ (rel.slot _ _) _; simp only [rel.slot_lit, List.getD_cons_succ, List.getD_cons_zero]; exact hu))); (intro u wu _ hu; obtain ⟨pu, rfl, -⟩ := hu; (simp only [rel.put_lit, List.set_cons_succ, List.set_cons_zero])))
        (apply rel.walk_val; (focus (intro wq hq hf; go_wp2; refine ⟨hq, Below.refl _ _, ?_, rfl⟩; (show rel.slot _ _ = _; simp only [rel.slot_lit, List.getD_cons_succ, List.getD_cons_zero]; (first | done | exact rfl)))); (simp only [rel.put_lit, List.set_cons_succ, List.set_cons_zero]))
        (apply rel.walk_val; (focus (intro wq hq hf; go_wp2; refine ⟨hq, Below.refl _ _, ?_, rfl⟩; (show rel.slot _ _ = _; simp only [rel.slot_lit, List.getD_cons_succ, List.getD_cons_zero]; (first | done | exact rfl)))); (simp only [rel.put_lit, List.set_cons_succ, List.set_cons_zero]))
        (apply rel.walk_val; (focus (intro wq hq hf; go_wp2; refine ⟨hq, Below.refl _ _, ?_, rfl⟩; (show rel.slot _ _ = _; simp only [rel.slot_lit, List.getD_cons_succ, List.getD_cons_zero]; (first | done | exact rfl)))); (simp only [rel.put_lit, List.set_cons_succ, List.set_cons_zero]))
        ((apply rel.walk_val; (focus (intro wq hq hf; (have d0 := (hq.cell (p := ⟨h, 0, none⟩) hh).trans h0); go_wp2; refine ⟨hq, Below.refl _ _, ?_, rfl⟩; (show rel.slot _ _ = _; simp only [rel.slot_lit, List.getD_cons_succ, List.getD_cons_zero]; (first | done | exact rfl)))); (simp only [rel.put_lit, List.set_cons_succ, List.set_cons_zero])))
        (apply rel.walk_val; (focus (intro wq hq hf; go_wp2; refine ⟨hq, Below.refl _ _, ?_, rfl⟩; (show rel.slot _ _ = _; simp only [rel.slot_lit, List.getD_cons_succ, List.getD_cons_zero]; (first | done | exact rfl)))); (simp only [rel.put_lit, List.set_cons_succ, List.set_cons_zero]))
        (apply rel.walk_val; (focus (intro wq hq hf; go_wp2; refine ⟨hq, Below.refl _ _, ?_, rfl⟩; (show rel.slot _ _ = _; simp only [rel.slot_lit, List.getD_cons_succ, List.getD_cons_zero]; (first | done | exact rfl)))); (simp only [rel.put_lit, List.set_cons_succ, List.set_cons_zero]))
        (apply rel.walk_val; (focus (intro wq hq hf; go_wp2; refine ⟨hq, Below.refl _ _, ?_, rfl⟩; (show rel.slot _ _ = _; simp only [rel.slot_lit, List.getD_cons_succ, List.getD_cons_zero]; (first | done | exact rfl)))); (simp only [rel.put_lit, List.set_cons_succ, List.set_cons_zero]))
        (apply rel.walk_val; (focus (intro wq hq hf; go_wp2; refine ⟨hq, Below.refl _ _, ?_, rfl⟩; (show rel.slot _ _ = _; simp only [rel.slot_lit, List.getD_cons_succ, List.getD_cons_zero]; (first | done | exact rfl)))); (simp only [rel.put_lit, List.set_cons_succ, List.set_cons_zero]))
        ((apply rel.walk_val; (focus (intro wq hq hf; (have d0 := (hq.cell (p := ⟨h, 3, none⟩) hh).trans h3); go_wp2; refine ⟨hq, Below.refl _ _, ?_, rfl⟩; (show rel.slot _ _ = _; simp only [rel.slot_lit, List.getD_cons_succ, List.getD_cons_zero]; (first | done | exact rfl)))); (simp only [rel.put_lit, List.set_cons_succ, List.set_cons_zero])))
        (apply rel.walk_rel (fun u w' => sch.IsT w' u (.node y 0 R ar)) ⟨_, rfl⟩ (fun u w1 w2 h1 h2 => h2.on h1); (focus (intro wq hq hf; go_wp2_with (go_at_call 51; with_reducible refine (o2 _ hq).mono ?_; rintro e w'' ⟨⟨u, rfl, hu⟩, hb⟩); refine ⟨hq.trans (hb.mono hq.size), hb, ?_, rfl⟩; (show sch.IsT _ (rel.slot _ _) _; simp only [rel.slot_lit, List.getD_cons_succ, List.getD_cons_zero]; exact hu))); (intro u wu _ hu; obtain ⟨pv, rfl, -⟩ := hu; (simp only [rel.put_lit, List.set_cons_succ, List.set_cons_zero])))
        (apply rel.walk_rel (fun u w' => sch.IsT w' u (.node z 0 bl L)) ⟨_, rfl⟩ (fun u w1 w2 h1 h2 => h2.on h1); (focus (intro wq hq hf; have h0 := hf.get 1 rfl rfl; go_wp2; refine ⟨hq, Below.refl _ _, ?_, rfl⟩; (show sch.IsT _ (rel.slot _ _) _; simp only [rel.slot_lit, List.getD_cons_succ, List.getD_cons_zero]; exact h0))); (intro u wu _ hu; obtain ⟨py, rfl, -⟩ := hu; (simp only [rel.put_lit, List.set_cons_succ, List.set_cons_zero])))
        refine rel.walk_nil ?_
        intro w9 K9 hF
        have hu1 : IsT w9 (.pointer py) (.node z 0 bl L) := hF _ (List.mem_cons_self ..)
        have hu2 : IsT w9 (.pointer pv) (.node y 0 R ar) := hF _ (List.mem_cons_of_mem _ (List.mem_cons_self ..))
        have hr9 := hst4 _ K9
        have hb9 := hb.trans (K9.mono hb.size)
        have n1 := hu1.nod
        have n2 := hu2.nod
        clear hF o1 o2 hst4 hb hL hR hal har hbl hbr
        simp only [List.drop_succ_cons, List.drop_zero]
        go_wp2_with fail
        go_roundg n
        case measure => omega
        case rel => exact ⟨st, _, _, _, _, rfl, rfl, n1, n2, hU2, hst2, hnn'.out.symm, by rw [hnn'.out]; exact hr9, hb9, by rw [hnn'.out]; exact hn64⟩
      · have hU2 := hU.out.rl q3 q2 0 0
        have q8 : y ≤ k := by omega
        have q4 : y < k := by have := hU.out.sides.top; change y ≠ k at this; omega
        have q5 : ¬ z < y := fun h => q2 ⟨h, q4⟩
        have q7 : y ≤ z := by omega
        have q6 : y < z := by have := hU.out.sides.two.1; change z ≠ y at this; omega
        have o1 := fun W (hW : Below wr.heap.size wr W) => over_any (x := y) (w := W) (hal.grow hW hW.size).t (hL.grow hW hW.size).t
        have o2 := fun W (hW : Below wr.heap.size wr W) => over_any (x := z) (w := W) (hR.grow hW hW.size).t (hbr.grow hW hW.size).t
        clear q1 q2
        clear hU
        go_wp2_with fail
        have q9 : ¬ k < y := Int.not_lt.2 q8
        have q10 : ¬ z < y := Int.not_lt.2 q7
        go_big_region
        go_wp2_with fail
        have q9 : ¬ k < y := Int.not_lt.2 q8
        have q10 : ¬ z < y := Int.not_lt.2 q7
        go_big_region
        go_wp2_with fail
        have q9 : ¬ k < y := Int.not_lt.2 q8
        have q10 : ¬ z < y := Int.not_lt.2 q7
        go_big_region
        go_wp2_with fail
        apply rel.region_tail (C := fun w' => Below wr.heap.size wr w') (X := fun w w' => Below w.heap.size w w') 21 (by kernel_rfl) (by kernel_rfl) (by kernel_rfl) (by kernel_rfl) ((Below.refl wr.heap.size wr).drew.drew.drew.drew)
        (apply rel.walk_val; (focus (intro wq hq hf; go_wp2; refine ⟨hq, Below.refl _ _, ?_, rfl⟩; (show rel.slot _ _ = _; simp only [rel.slot_lit, List.getD_cons_succ, List.getD_cons_zero]; (first | done | exact rfl)))); (simp only [rel.put_lit, List.set_cons_succ, List.set_cons_zero]))
        (apply rel.walk_val; (focus (intro wq hq hf; go_wp2; refine ⟨hq, Below.refl _ _, ?_, rfl⟩; (show rel.slot _ _ = _; simp only [rel.slot_lit, List.getD_cons_succ, List.getD_cons_zero]; (first | done | exact rfl)))); (simp only [rel.put_lit, List.set_cons_succ, List.set_cons_zero]))
        (apply rel.walk_val; (focus (intro wq hq hf; go_wp2; refine ⟨hq, Below.refl _ _, ?_, rfl⟩; (show rel.slot _ _ = _; simp only [rel.slot_lit, List.getD_cons_succ, List.getD_cons_zero]; (first | done | exact rfl)))); (simp only [rel.put_lit, List.set_cons_succ, List.set_cons_zero]))
        ((apply rel.walk_val; (focus (intro wq hq hf; (have d0 := (hq.cell (p := ⟨h, 0, none⟩) hh).trans h0); go_wp2; refine ⟨hq, Below.refl _ _, ?_, rfl⟩; (show rel.slot _ _ = _; simp only [rel.slot_lit, List.getD_cons_succ, List.getD_cons_zero]; (first | done | exact rfl)))); (simp only [rel.put_lit, List.set_cons_succ, List.set_cons_zero])))
        (apply rel.walk_val; (focus (intro wq hq hf; go_wp2; refine ⟨hq, Below.refl _ _, ?_, rfl⟩; (show rel.slot _ _ = _; simp only [rel.slot_lit, List.getD_cons_succ, List.getD_cons_zero]; (first | done | exact rfl)))); (simp only [rel.put_lit, List.set_cons_succ, List.set_cons_zero]))
        (apply rel.walk_val; (focus (intro wq hq hf; go_wp2; refine ⟨hq, Below.refl _ _, ?_, rfl⟩; (show rel.slot _ _ = _; simp only [rel.slot_lit, List.getD_cons_succ, List.getD_cons_zero]; (first | done | exact rfl)))); (simp only [rel.put_lit, List.set_cons_succ, List.set_cons_zero]))
        (apply rel.walk_val; (focus (intro wq hq hf; go_wp2; refine ⟨hq, Below.refl _ _, ?_, rfl⟩; (show rel.slot _ _ = _; simp only [rel.slot_lit, List.getD_cons_succ, List.getD_cons_zero]; (first | done | exact rfl)))); (simp only [rel.put_lit, List.set_cons_succ, List.set_cons_zero]))
        ((apply rel.walk_val; (focus (intro wq hq hf; (have d0 := (hq.cell (p := ⟨h, 2, none⟩) hh).trans h2); go_wp2; refine ⟨hq, Below.refl _ _, ?_, rfl⟩; (show rel.slot _ _ = _; simp only [rel.slot_lit, List.getD_cons_succ, List.getD_cons_zero]; (first | done | exact rfl)))); (simp only [rel.put_lit, List.set_cons_succ, List.set_cons_zero])))
        (apply rel.walk_val; (focus (intro wq hq hf; go_wp2; refine ⟨hq, Below.refl _ _, ?_, rfl⟩; (show rel.slot _ _ = _; simp only [rel.slot_lit, List.getD_cons_succ, List.getD_cons_zero]; (first | done | exact rfl)))); (simp only [rel.put_lit, List.set_cons_succ, List.set_cons_zero]))
        (apply rel.walk_rel (fun u w' => sch.IsT w' u (.node y 0 al L)) ⟨_, rfl⟩ (fun u w1 w2 h1 h2 => h2.on h1); (focus (intro wq hq hf; go_wp2_with (go_at_call 51; with_reducible refine (o1 _ hq).mono ?_; rintro e w'' ⟨⟨u, rfl, hu⟩, hb⟩); refine ⟨hq.trans (hb.mono hq.size), hb, ?_, rfl⟩; (show sch.IsT _ (rel.slot _ _) _; simp only [rel.slot_lit, List.getD_cons_succ, List.getD_cons_zero]; exact hu))); (intro u wu _ hu; obtain ⟨pu, rfl, -⟩ := hu; (simp only [rel.put_lit, List.set_cons_succ, List.set_cons_zero])))
        (apply rel.walk_val; (focus (intro wq hq hf; go_wp2; refine ⟨hq, Below.refl _ _, ?_, rfl⟩; (show rel.slot _ _ = _; simp only [rel.slot_lit, List.getD_cons_succ, List.getD_cons_zero]; (first | done | exact rfl)))); (simp only [rel.put_lit, List.set_cons_succ, List.set_cons_zero]))
        (apply rel.walk_val; (focus (intro wq hq hf; go_wp2; refine ⟨hq, Below.refl _ _, ?_, rfl⟩; (show rel.slot _ _ = _; simp only [rel.slot_lit, List.getD_cons_succ, List.getD_cons_zero]; (first | done | exact rfl)))); (simp only [rel.put_lit, List.set_cons_succ, List.set_cons_zero]))
        (apply rel.walk_val; (focus (intro wq hq hf; go_wp2; refine ⟨hq, Below.refl _ _, ?_, rfl⟩; (show rel.slot _ _ = _; simp only [rel.slot_lit, List.getD_cons_succ, List.getD_cons_zero]; (first | done | exact rfl)))); (simp only [rel.put_lit, List.set_cons_succ, List.set_cons_zero]))
        ((apply rel.walk_val; (focus (intro wq hq hf; (have d0 := (hq.cell (p := ⟨i, 0, none⟩) hi).trans i0); go_wp2; refine ⟨hq, Below.refl _ _, ?_, rfl⟩; (show rel.slot _ _ = _; simp only [rel.slot_lit, List.getD_cons_succ, List.getD_cons_zero]; (first | done | exact rfl)))); (simp only [rel.put_lit, List.set_cons_succ, List.set_cons_zero])))
        (apply rel.walk_val; (focus (intro wq hq hf; go_wp2; refine ⟨hq, Below.refl _ _, ?_, rfl⟩; (show rel.slot _ _ = _; simp only [rel.slot_lit, List.getD_cons_succ, List.getD_cons_zero]; (first | done | exact rfl)))); (simp only [rel.put_lit, List.set_cons_succ, List.set_cons_zero]))
        (apply rel.walk_val; (focus (intro wq hq hf; go_wp2; refine ⟨hq, Below.refl _ _, ?_, rfl⟩; (show rel.slot _ _ = _; simp only [rel.slot_lit, List.getD_cons_succ, List.getD_cons_zero]; (first | done | exact rfl)))); (simp only [rel.put_lit, List.set_cons_succ, List.set_cons_zero]))
        (apply rel.walk_val; (focus (intro wq hq hf; go_wp2; refine ⟨hq, Below.refl _ _, ?_, rfl⟩; (show rel.slot _ _ = _; simp only [rel.slot_lit, List.getD_cons_succ, List.getD_cons_zero]; (first | done | exact rfl)))); (simp only [rel.put_lit, List.set_cons_succ, List.set_cons_zero]))
        (apply rel.walk_val; (focus (intro wq hq hf; go_wp2; refine ⟨hq, Below.refl _ _, ?_, rfl⟩; (show rel.slot _ _ = _; simp only [rel.slot_lit, List.getD_cons_succ, List.getD_cons_zero]; (first | done | exact rfl)))); (simp only [rel.put_lit, List.set_cons_succ, List.set_cons_zero]))
        ((apply rel.walk_val; (focus (intro wq hq hf; (have d0 := (hq.cell (p := ⟨i, 3, none⟩) hi).trans i3); go_wp2; refine ⟨hq, Below.refl _ _, ?_, rfl⟩; (show rel.slot _ _ = _; simp only [rel.slot_lit, List.getD_cons_succ, List.getD_cons_zero]; (first | done | exact rfl)))); (simp only [rel.put_lit, List.set_cons_succ, List.set_cons_zero])))
        (apply rel.walk_rel (fun u w' => sch.IsT w' u (.node z 0 R br)) ⟨_, rfl⟩ (fun u w1 w2 h1 h2 => h2.on h1); (focus (intro wq hq hf; go_wp2_with (go_at_call 51; with_reducible refine (o2 _ hq).mono ?_; rintro e w'' ⟨⟨u, rfl, hu⟩, hb⟩); refine ⟨hq.trans (hb.mono hq.size), hb, ?_, rfl⟩; (show sch.IsT _ (rel.slot _ _) _; simp only [rel.slot_lit, List.getD_cons_succ, List.getD_cons_zero]; exact hu))); (intro u wu _ hu; obtain ⟨pv, rfl, -⟩ := hu; (simp only [rel.put_lit, List.set_cons_succ, List.set_cons_zero])))
        (apply rel.walk_rel (fun u w' => sch.IsT w' u (.node y 0 al L)) ⟨_, rfl⟩ (fun u w1 w2 h1 h2 => h2.on h1); (focus (intro wq hq hf; have h0 := hf.get 1 rfl rfl; go_wp2; refine ⟨hq, Below.refl _ _, ?_, rfl⟩; (show sch.IsT _ (rel.slot _ _) _; simp only [rel.slot_lit, List.getD_cons_succ, List.getD_cons_zero]; exact h0))); (intro u wu _ hu; obtain ⟨py, rfl, -⟩ := hu; (simp only [rel.put_lit, List.set_cons_succ, List.set_cons_zero])))
        refine rel.walk_nil ?_
        intro w9 K9 hF
        have hu1 : IsT w9 (.pointer py) (.node y 0 al L) := hF _ (List.mem_cons_self ..)
        have hu2 : IsT w9 (.pointer pv) (.node z 0 R br) := hF _ (List.mem_cons_of_mem _ (List.mem_cons_self ..))
        have hr9 := hst4 _ K9
        have hb9 := hb.trans (K9.mono hb.size)
        have n1 := hu1.nod
        have n2 := hu2.nod
        clear hF o1 o2 hst4 hb hL hR hal har hbl hbr
        simp only [List.drop_succ_cons, List.drop_zero]
        go_wp2_with fail
        go_roundg n
        case measure => omega
        case rel => exact ⟨st, _, _, _, _, rfl, rfl, n1, n2, hU2, hst2, hnn'.out.symm, by rw [hnn'.out]; exact hr9, hb9, by rw [hnn'.out]; exact hn64⟩
end Go.Proofs.Ytlaflhnnddfkkaa.spl
