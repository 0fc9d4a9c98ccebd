/- Package treap: next, open, close. -/
import Derived.Test.YtlaflhnnddfkkaaTrpFns
namespace Go.Proofs.Ytlaflhnnddfkkaa.trp
open Go Go.RowKit
open Go.Proofs.Ytlaflhnnddfkkaa.sch
set_option linter.unusedVariables false

set_option maxHeartbeats 8000000 in
theorem next_any {w W : World} {b : Nat} {r : Option Nat} {t : Tr} {q : Option Addr} {x m : Int} {l k : Tr} {st : Wt} {v : Value} {p : Option Addr} (h : Rs w W b r t ((q, .node x m l k) :: st) v p) (hl : st.length < 4611686018427387904) :
    Calls Try.prog 83 #[.pointer (some ⟨b, 0, none⟩)] W fun e W' => e = .returned (.int .i64 x) ∧ (∃ v' p', Rs w W' b r k st v' p') ∧ Chg b r W W' := by
  have hbox := h.box
  have c0 := hbox.cell 0
  have c1 := hbox.cell 1
  have f0 := hbox.free 0
  have f1 := hbox.free 1
  have l0 := hbox.lt
  have hrow := h.row
  have hblk := h.blk
  have hn1 := (h.up (q, .node x m l k) (List.mem_cons_self ..)).1
  have hup : Up w st := fun y hy => h.up y (List.mem_cons_of_mem _ hy)
  have hbl := h.below
  have hbase := h.base
  have hrn := h.ne hbox (by decide)
  obtain ⟨g1, a1, a2, rfl, hg1, hk1, -, hkk⟩ := hn1
  have k1 := (hk1.below hbl hg1).cell 0
  have k3 := (hk1.below hbl hg1).cell 3
  have j1 := Nat.lt_of_lt_of_le hg1 hbl.size
  rw [ptrs_cons, List.length_cons, ← ptrs_len st] at hrow
  obtain ⟨g, cap, rfl, hc, hcap, hrow2⟩ := row_last hrow
  have i1 := lt_of_cell hc
  clear h
  simp only [List.getElem?_cons_zero, List.getElem?_cons_succ, List.length_cons, ptrs_len] at *
  have hblk2 : r = some g := hblk.symm
  obtain ⟨n, hn⟩ : ∃ n, n = st.length := ⟨_, rfl⟩
  rw [← hn] at hbox hl c1 hc hcap hrow2
  replace hn := Lib.hid hn
  clear hrow hk1 hblk
  have hgb : g ≠ b := fun e => hrn (by rw [hblk2, e])
  have hg1b : g1 ≠ b := fun e => by omega
  go_enter Try.func83, Try.ntmps83
  go_wp2_with fail
  go_big_region
  go_wp2_with fail
  go_ret
  obtain rfl := hn.out
  refine ⟨rfl, ⟨_, _, (hbox.set2 (.pointer a2) (.slice (some ⟨g, 0, none⟩) st.length cap)).drew, hbase, hblk2.symm, row_keep (hp.row_set (hp.row_set hrow2 hbox (by decide) _) (hbox.set 0 _) (by decide) _) fun _ _ hk => hk.drew, hkk, hup, ?_⟩, ?_⟩
  · exact ((hbl.setCell hbase _).setCell hbase _).drew
  · exact (((Chg.refl b r W).set 0 _).set 1 _).drew

set_option maxHeartbeats 8000000 in
theorem open_any {w W : World} {b : Nat} {r : Option Nat} {x m : Int} {l k : Tr} {st : Wt} {v : Value} {p : Option Addr} (h : Rs w W b r (.node x m l k) st v p) (hl : st.length < 4398046511104) :
    Calls Try.prog 82 #[.pointer (some ⟨b, 0, none⟩)] W fun e W' => e = .returned (.tuple #[]) ∧ (∃ r' v' p', Rs w W' b r' l ((p, .node x m l k) :: st) v' p' ∧ Fr W r r') ∧ Chg b r W W' := by
  obtain ⟨i0, hi, hz0, hz1, hz2⟩ := info_parts infoPtr
  have hbox := h.box
  have hrow := h.row
  have hblk := h.blk
  have hbl := h.below
  have hbase := h.base
  have hne := h.ne hbox (by decide)
  have hlt := h.lt
  have hup : Up w ((p, .node x m l k) :: st) := fun y hy => by
    rcases List.mem_cons.1 hy with rfl | hy
    · exact ⟨h.tree, by simp⟩
    · exact h.up y hy
  obtain ⟨g1, a1, a2, rfl, hg1, hk1, hkl, -⟩ := h.tree
  obtain ⟨a, cap, rfl⟩ := rowN_val hrow
  subst hblk
  have hfr : ∀ γ, W.heap.size ≤ γ → some γ ≠ (Value.slice a st.length cap).ownBlock := fun γ hγ e => by have := hlt γ e.symm; omega
  clear h hlt
  obtain ⟨n, hn⟩ : ∃ n, n = st.length := ⟨_, rfl⟩
  rw [← hn] at hbox hl hrow hne hfr ⊢
  replace hn := Lib.hid hn
  have hg1b : g1 ≠ b := by omega
  go_enter Try.func82, Try.ntmps82
  go_wp2_with fail
  apply rel.region_tail (C := Cg W w.heap.size tyP 1 n (ptrs st) (.slice a n cap) (Value.slice a n cap).ownBlock) (X := Xg w.heap.size tyP 1 (n + 1) (ptrs st ++ [.pointer (some ⟨g1, 0, none⟩)]) (Value.slice a n cap).ownBlock) 13 (by kernel_rfl) (by kernel_rfl) (by kernel_rfl) (by kernel_rfl) (Cg.start hrow)
  (apply rel.walk_val; (focus (intro wq hq hf; go_wp2; refine ⟨hq, Xg.refl _, ?_, rfl⟩; (show rel.slot _ _ = _; simp only [rel.slot_lit, List.getD_cons_succ, List.getD_cons_zero]; (first | done | exact rfl)))); (simp only [rel.put_lit, List.set_cons_succ, List.set_cons_zero]))
  (apply rel.walk_val; (focus (intro wq hq hf; go_wp2; refine ⟨hq, Xg.refl _, ?_, rfl⟩; (show rel.slot _ _ = _; simp only [rel.slot_lit, List.getD_cons_succ, List.getD_cons_zero]; (first | done | exact rfl)))); (simp only [rel.put_lit, List.set_cons_succ, List.set_cons_zero]))
  (apply rel.walk_val; (focus (intro wq hq hf; go_wp2; refine ⟨hq, Xg.refl _, ?_, rfl⟩; (show rel.slot _ _ = _; simp only [rel.slot_lit, List.getD_cons_succ, List.getD_cons_zero]; (first | done | exact rfl)))); (simp only [rel.put_lit, List.set_cons_succ, List.set_cons_zero]))
  (apply rel.walk_val; (focus (intro wq hq hf; go_wp2; refine ⟨hq, Xg.refl _, ?_, rfl⟩; (show rel.slot _ _ = _; simp only [rel.slot_lit, List.getD_cons_succ, List.getD_cons_zero]; (first | done | exact rfl)))); (simp only [rel.put_lit, List.set_cons_succ, List.set_cons_zero]))
  (apply rel.walk_val; (focus (intro wq hq hf; (have d1 := (hq.blk hbox hne).cell 1; simp only [List.getElem?_cons_succ, List.getElem?_cons_zero] at d1); go_wp2; refine ⟨hq, Xg.refl _, ?_, rfl⟩; (show rel.slot _ _ = _; simp only [rel.slot_lit, List.getD_cons_succ, List.getD_cons_zero]; (first | done | exact rfl)))); (simp only [rel.put_lit, List.set_cons_succ, List.set_cons_zero]))
  (apply rel.walk_val; (focus (intro wq hq hf; go_wp2; refine ⟨hq, Xg.refl _, ?_, rfl⟩; (show rel.slot _ _ = _; simp only [rel.slot_lit, List.getD_cons_succ, List.getD_cons_zero]; (first | done | exact rfl)))); (simp only [rel.put_lit, List.set_cons_succ, List.set_cons_zero]))
  (apply rel.walk_val; (focus (intro wq hq hf; go_wp2; refine ⟨hq, Xg.refl _, ?_, rfl⟩; (show rel.slot _ _ = _; simp only [rel.slot_lit, List.getD_cons_succ, List.getD_cons_zero]; (first | done | exact rfl)))); (simp only [rel.put_lit, List.set_cons_succ, List.set_cons_zero]))
  (apply rel.walk_val; (focus (intro wq hq hf; go_wp2; refine ⟨hq, Xg.refl _, ?_, rfl⟩; (show rel.slot _ _ = _; simp only [rel.slot_lit, List.getD_cons_succ, List.getD_cons_zero]; (first | done | exact rfl)))); (simp only [rel.put_lit, List.set_cons_succ, List.set_cons_zero]))
  (apply rel.walk_val; (focus (intro wq hq hf; (have d1 := (hq.blk hbox hne).cell 0; simp only [List.getElem?_cons_succ, List.getElem?_cons_zero] at d1); go_wp2; refine ⟨hq, Xg.refl _, ?_, rfl⟩; (show rel.slot _ _ = _; simp only [rel.slot_lit, List.getD_cons_succ, List.getD_cons_zero]; (first | done | exact rfl)))); (simp only [rel.put_lit, List.set_cons_succ, List.set_cons_zero]))
  (apply rel.walk_rel (fun u w' => ∃ γ, u = .slice (some ⟨γ, 0, none⟩) 1 1 ∧ W.heap.size ≤ γ ∧ hp.Blk w' γ tyP [.pointer (some ⟨g1, 0, none⟩)]) ⟨_, rfl⟩ (fun u w1 w2 h1 h2 => by obtain ⟨γ, he, hl, hk⟩ := h2; exact ⟨γ, he, hl, h1.blk hk (hfr γ hl)⟩); (focus (intro wq hq hf; go_wp2; refine ⟨hq.alloc _, Xg.alloc _ _, ?_, rfl⟩; (show ∃ γ, rel.slot _ _ = _ ∧ _; simp only [rel.slot_lit, List.getD_cons_succ, List.getD_cons_zero]; exact ⟨_, rfl, hq.1.size, hp.Blk.new _ _ _⟩))); (intro u wu _ hu; obtain ⟨γ, rfl, -, -⟩ := hu; (simp only [rel.put_lit, List.set_cons_succ, List.set_cons_zero])))
  apply rel.walk_rel (fun u w' => Ap w.heap.size tyP 1 (n + 1) (ptrs st ++ [Value.pointer (some ⟨g1, 0, none⟩)]) W (Value.slice a n cap).ownBlock u w') ⟨_, rfl⟩ (fun u w1 w2 h1 h2 => h2.on h1)
  focus
    intro wq hq hf
    obtain ⟨γ', he, hγ, hk⟩ := hf.get 0 rfl rfl
    cases he
    go_wp2_with (at_builtin; refine wpList_append_own2 _ rfl _ _ 85 rfl w.heap.size tyP i0 (.pointer none) 1 8 Try.underlying85 hi hz0 hz1 hz2 rfl (by decide) _ _ _ rfl hq.2 ⟨_, 0, none⟩ 1 [.pointer (some ⟨g1, 0, none⟩)] rfl rfl (cell_blk hk) (by simp [Value.oneCell']) (by unfold maxLen; omega) (by omega) (by have := hq.1.size; have := hbl.size; omega) ?_; intro v' w2 h1 h2 h3 h4 h5)
    refine ⟨⟨gtrans hq.1 h2, h4⟩, ⟨h2, h5⟩, ?_, rfl⟩
    show Ap _ _ _ _ _ _ _ (rel.slot _ _) _
    simp only [rel.slot_lit, List.getD_cons_succ, List.getD_cons_zero]
    exact ⟨h1, h3.old hq.1.size⟩
  intro u wu _ hu
  obtain ⟨a', c', rfl⟩ := rowN_val hu.1
  clear hu
  (simp only [rel.put_lit, List.set_cons_succ, List.set_cons_zero])
  (apply rel.walk_val; (focus (intro wq hq hf; go_wp2; refine ⟨hq, Xg.refl _, ?_, rfl⟩; (show rel.slot _ _ = _; simp only [rel.slot_lit, List.getD_cons_succ, List.getD_cons_zero]; (first | done | exact rfl)))); (simp only [rel.put_lit, List.set_cons_succ, List.set_cons_zero]))
  (apply rel.walk_val; (focus (intro wq hq hf; go_wp2; refine ⟨hq, Xg.refl _, ?_, rfl⟩; (show rel.slot _ _ = _; simp only [rel.slot_lit, List.getD_cons_succ, List.getD_cons_zero]; (first | done | exact rfl)))); (simp only [rel.put_lit, List.set_cons_succ, List.set_cons_zero]))
  refine rel.walk_nil ?_
  intro w9 K9 hF
  obtain ⟨hr9, hf9⟩ := hF _ (List.mem_cons_self ..)
  clear hF
  simp only [List.drop_succ_cons, List.drop_zero]
  have hbox9 := K9.blk hbox hne
  have f0 := hbox9.free 0
  have f1 := hbox9.free 1
  have c0 := hbox9.cell 0
  have c1 := hbox9.cell 1
  have l0 := hbox9.lt
  have hb9 : Below w.heap.size w w9 := hbl.grown K9.1 hbl.size (fun k hk => (hrow.lt k hk).1)
  have k2 := (hk1.below hb9 hg1).cell 2
  have j1 := Nat.lt_of_lt_of_le hg1 hb9.size
  simp only [List.getElem?_cons_zero, List.getElem?_cons_succ] at c0 c1 k2
  have hchg : Chg b (Value.slice a n cap).ownBlock W w9 := Chg.of_grown K9.1
  go_wp2_with fail
  go_end0
  obtain rfl := hn.out
  refine ⟨rfl, ⟨_, _, _, ⟨(hbox9.set 1 _).set 0 _, hbase, rfl, ?_, hkl, hup, (hb9.setCell hbase _).setCell hbase _⟩, hf9⟩, (hchg.set 1 _).set 0 _⟩
  rw [ptrs_cons]
  exact hp.row_set (hp.row_set hr9 hbox9 (by decide) _) (hbox9.set 1 _) (by decide) _

set_option maxHeartbeats 8000000 in
theorem close_any {W : World} {base b : Nat} {r : Option Nat} {q : Option Addr × Int × Tr} {st : Pth} {T : Tr} {v : Value} {p : Option Addr} (h : Gm W base b r (q :: st) T v p) (hl : st.length < 4398046511104) :
    Calls Try.prog 96 #[.pointer (some ⟨b, 0, none⟩)] W fun e W' => e = .returned (.tuple #[]) ∧ (∃ v' p', Gm W' base b r st (.node q.2.1 (prio q.2.1) q.2.2 T) v' p') ∧ Chg b r W W' := by
  have hbox := h.box
  have hrow : W.ownsRow base tyT 4 v (st.length + 1) (fl st ++ cellsOf q) := h.row
  have hblk := h.blk
  have hown := h.own
  have hT := h.tree
  have hL := h.lefts
  have hlt := h.lt
  clear h
  obtain ⟨g, cap, rfl, hg0, hgl, hcap, hc, -⟩ := rowN_cell hrow (by omega)
  have hcut := rowN_cut hrow (fl_len st)
  have d0 := hc (st.length * 4) (.int .i64 q.2.1) (by rw [List.getElem?_append_right (by rw [fl_len]; omega), fl_len, Nat.sub_self]; rfl)
  have d1 := hc (st.length * 4 + 1) (.int .i64 (prio q.2.1)) (by rw [List.getElem?_append_right (by rw [fl_len]; omega), fl_len, Nat.add_sub_cancel_left]; rfl)
  have d2 := hc (st.length * 4 + 2) (.pointer q.1) (by rw [List.getElem?_append_right (by rw [fl_len]; omega), fl_len, Nat.add_sub_cancel_left]; rfl)
  have d3 := hc (st.length * 4 + 3) (.pointer none) (by rw [List.getElem?_append_right (by rw [fl_len]; omega), fl_len, Nat.add_sub_cancel_left]; rfl)
  have hblk2 : r = some g := hblk.symm
  clear hc hblk
  have c0 := hbox.cell 0
  have c1 := hbox.cell 1
  have f0 := hbox.free 0
  have f1 := hbox.free 1
  have l0 := hbox.lt
  simp only [List.getElem?_cons_zero, List.getElem?_cons_succ] at c0 c1
  have hgb : g ≠ b := fun e => by
    subst e
    obtain ⟨-, h2⟩ := hcut
    rcases h2 with ⟨h2, _⟩ | ⟨g', cap', cur, hv, hb, hg, _⟩
    · cases h2
    · cases hv
      exact blk_ne (show hp.Blk W g tyT cur.toList by unfold hp.Blk; rw [hg]) hbox (by decide) rfl
  obtain ⟨qp, qx, qt⟩ := q
  simp only at *
  generalize prio qx = y at *
  obtain ⟨n, hn⟩ : ∃ n, n = st.length := ⟨_, rfl⟩
  rw [← hn] at hbox hl c0 hcap hrow hcut d0 d1 d2 d3
  replace hn := Lib.hid hn
  replace hrow := Lib.hid hrow
  go_enter Try.func96, Try.ntmps96
  go_wp2_with fail
  go_big_region
  go_wp2_with fail
  go_end0
  obtain rfl := hn.out
  obtain ⟨W1, hW1⟩ : ∃ W1, (((W.setCell ⟨b, 1, none⟩ (.pointer (some ⟨W.heap.size, 0, none⟩))).setCell ⟨b, 0, none⟩ (.slice (some ⟨g, 0, none⟩) st.length cap)).alloc (.cells #[.int .i64 qx, .int .i64 y, .pointer qp, .pointer p] tyT)).drew = W1 := ⟨_, rfl⟩
  rw [hW1]
  have hbk : ∀ g' t cs, g' ≠ b → hp.Blk W g' t cs → hp.Blk W1 g' t cs := fun g' t cs hne hk => by rw [← hW1]; exact (((hk.other hne _).other hne _).alloc _).drew
  have hB : hp.Blk W1 b tyG [.slice (some ⟨g, 0, none⟩) st.length cap, .pointer (some ⟨W.heap.size, 0, none⟩)] := by rw [← hW1]; exact (((hbox.set 1 _).set 0 _).alloc _).drew
  have hN : hp.Blk W1 W.heap.size tyT [.int .i64 qx, .int .i64 y, .pointer qp, .pointer p] := by rw [← hW1]; exact (hp.Blk.newAt (by simp [World.setCell])).drew
  have hx : ∀ t p, Nodx r W t p → Nodx r W1 t p := fun t p hn => hn.kept fun g' cs _ h2 => hbk _ _ _ (blk_ne h2 hbox (by decide)) h2
  refine ⟨rfl, ⟨_, _, hB, row_keep hcut fun g' cs hk => hbk _ _ _ (blk_ne hk hbox (by decide)) hk, hown, hblk2.symm, fun q hq => hx _ _ (hL q (List.mem_cons_of_mem _ hq)), ⟨_, _, _, rfl, ?_, hN, hx _ _ (hL (qp, qx, qt) (List.mem_cons_self ..)), hx _ _ hT⟩⟩, ?_⟩
  · rw [hblk2]
    intro e
    cases e
    omega
  · rw [← hW1]
    exact ((((Chg.refl b r W).set 1 _).set 0 _).alloc _).drew
end Go.Proofs.Ytlaflhnnddfkkaa.trp
