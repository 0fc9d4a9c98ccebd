/- Package splay: splayed, put, concat. -/
import Derived.Test.YtlaflhnnddfkkaaSpl
namespace Go.Proofs.Ytlaflhnnddfkkaa.spl
open Go Go.RowKit
open Go.Proofs.Ytlaflhnnddfkkaa.sch

theorem bel_left {x y m : Int} {l r : Tr} (h : x < y) : bel x (.node y m l r) = l := by
  show (if x < y then l else if y < x then r else .nil) = l
  rw [if_pos h]
theorem bel_right {x y m : Int} {l r : Tr} (h : y < x) : bel x (.node y m l r) = r := by
  show (if x < y then l else if y < x then r else .nil) = r
  rw [if_neg (by omega), if_pos h]
theorem bel_here {x y m : Int} {l r : Tr} (h1 : ¬ x < y) (h2 : ¬ y < x) : bel x (.node y m l r) = .nil := by
  show (if x < y then l else if y < x then r else .nil) = .nil
  rw [if_neg h1, if_neg h2]
theorem bel_less {x y m : Int} {l r : Tr} : (keys (bel x (.node y m l r))).length < (keys (.node y m l r)).length := by
  by_cases h1 : x < y
  · rw [bel_left h1]; simp only [keys, List.length_append, List.length_cons]; omega
  · by_cases h2 : y < x
    · rw [bel_right h2]; simp only [keys, List.length_append, List.length_cons]; omega
    · rw [bel_here h1 h2]; simp only [keys, List.length_append, List.length_cons, List.length_nil]; omega

set_option maxRecDepth 100000 in
set_option maxHeartbeats 16000000 in
theorem splayed_any {x : Int} {t : Tr} {p : Option Addr} {w : World} (hn : Nod w.heap.size w t p) (ha : Asc (keys t)) (hS : (keys t).length ≤ 17592186044416) :
    Calls Try.prog 52 #[.pointer p, .int .i64 x] w fun e w' => (∃ u, e = .returned u ∧ IsG w' u (Near x (keys t))) ∧ Below w.heap.size w w' := by
  rcases t with _ | ⟨y, m, l, r⟩
  · obtain rfl : p = none := hn
    go_enter Try.func52, Try.ntmps52
    go_wp2_with fail
    go_ret
    exact ⟨⟨_, rfl, none, .nil, rfl, rfl, rfl, .inl rfl⟩, Below.refl _ _⟩
  obtain ⟨i0, hi, hz0, hz1, hz2⟩ := info_parts infoPtr
  have hD : Hid (Down x (keys (.node y m l r)) [] (.node y m l r)) := Lib.hid (Down.start ha)
  have hn0 := hn
  obtain ⟨g, c, d, rfl, hg, hv, hl, hr⟩ := hn
  have hb0 := below_any (x := x) hv
  have hq0 := nod_bel (x := x) (y := y) (m := m) hl hr
  have ha' := Lib.hid ha
  clear ha
  obtain ⟨K, hK⟩ : ∃ K, keys (.node y m l r) = K := ⟨_, rfl⟩
  rw [hK] at hS ha' hD ⊢
  generalize bq x y c d = q at *
  obtain ⟨t, ht⟩ : ∃ t, Tr.node y m l r = t := ⟨_, rfl⟩
  have hne : Tr.node y m l r ≠ .nil := by simp
  rw [ht] at hn0 hD hq0 hne
  have hm : (keys t).length ≤ K.length := by rw [← hK, ht]; exact Nat.le_refl _
  go_enter Try.func52, Try.ntmps52
  go_wp2_with (go_at_call 69; (with_reducible refine hb0.mono ?_); clear hb0; rintro e w1 ⟨rfl, rfl⟩)
  clear hv hl hr hK ht
  go_loopg [0, 5, 6] (keys t).length (fun n u u1 u2 W' => ∃ (st : Wt) (t' : Tr) (p' q' : Option Addr), u = .pointer p' ∧ u2 = .pointer q' ∧ Nod w.heap.size w t' p' ∧ Nod w.heap.size w (bel x t') q' ∧ t' ≠ .nil ∧ Hid (Down x K st t') ∧ Hid (Up w st) ∧ n = (keys t').length ∧ W'.ownsRow w.heap.size tyP 1 u1 st.length (ptrs st) ∧ Below w.heap.size w W')
  case atStart => exact ⟨[], t, _, q, rfl, rfl, hn0, hq0, hne, hD, by show Up _ _; simp [Up], rfl, World.ownsRow_nil _ _ _ _, Below.refl _ _⟩
  case round =>
    clear hn0 hq0 hne hD hm hg
    obtain ⟨st, t, p, q, rfl, rfl, hn, hq, hne, hD, hst, hk, hrow, hb⟩ := hrel
    have hlen := hD.out.len (fun a ha => (hst.out a ha).2)
    obtain ⟨a, c5, rfl⟩ : ∃ a c, u5 = .slice a st.length c := by
      rcases hrow.2 with ⟨h, h0⟩ | ⟨g, cap, cur, h, _⟩
      · exact ⟨none, 0, by rw [h, h0]⟩
      · exact ⟨_, _, h⟩
    by_cases hbel : bel x t = .nil
    · rw [hbel] at hq
      obtain rfl : q = none := hq
      rcases t with _ | ⟨y, m, l, r⟩
      · exact absurd rfl hne
      have hnx : Hid (∀ W u, IsG W u (Top K y) → IsG W u (Near x K)) := Lib.hid fun W u h => h.imp fun t' ht => ht.near (hD.out.stop ha'.out (fun h => by rw [← hbel]; exact (bel_left h).symm) (fun h => by rw [← hbel]; exact (bel_right h).symm))
      have hup : Up wr st := fun z hz => ⟨(hst.out z hz).1.grow hb hb.size, (hst.out z hz).2⟩
      have hcl := raised_any rfl (hn.grow hb hb.size) hD.out.turn hup hrow (by omega)
      clear hbel hne hD hst hk hrow hlen hup hn hS
      go_wp2_with (go_at_call 70; (with_reducible refine hcl.mono ?_); clear hcl; rintro e w1 ⟨⟨u, rfl, hu⟩, hb1⟩; replace hu := hnx.out _ _ hu; clear hnx)
      go_ret
      exact ⟨⟨_, rfl, hu⟩, hb.trans (hb1.mono hb.size)⟩
    · rcases t with _ | ⟨y, m, l, r⟩
      · exact absurd rfl hne
      have hdn : ∀ a, Down x K ((a, .node y m l r) :: st) (bel x (.node y m l r)) := fun a => by
        by_cases h1 : x < y
        · rw [bel_left h1]
          exact hD.out.left h1
        · by_cases h2 : y < x
          · rw [bel_right h2]
            exact hD.out.right h2
          · exact absurd (bel_here h1 h2) hbel
      have hup : Up w ((p, .node y m l r) :: st) := fun z hz => by
        rcases List.mem_cons.1 hz with rfl | hz
        · exact ⟨hn, by simp⟩
        · exact hst.out z hz
      have hdn2 := Lib.hid (hdn p)
      have hup2 := Lib.hid hup
      have hdec := Lib.hid (show (keys (bel x (.node y m l r))).length < gk by
        rw [hk]; exact bel_less)
      obtain ⟨n, hnn⟩ : ∃ n, st.length = n := ⟨_, rfl⟩
      have hkl : 1 ≤ (keys (.node y m l r)).length := by simp only [keys, List.length_append, List.length_cons]; omega
      have hn65 : n + 1 ≤ 17592186044416 := by omega
      obtain ⟨T, hT⟩ : ∃ T, bel x (.node y m l r) = T := ⟨_, rfl⟩
      rw [hT] at hbel hq hdn2 hdec
      obtain ⟨g, cg, dg, rfl, hg, hvg, -⟩ := hn
      have hq0 := hq
      rcases T with _ | ⟨z, mz, lz, rz⟩
      · exact absurd rfl hbel
      obtain ⟨i, ci, di, rfl, hgi, hvi, hli, hri⟩ := hq
      have hcl := fun W (hW : Below w.heap.size w W) => below_any (x := x) (hvi.below hW hgi)
      have hq2 := nod_bel (x := x) (y := z) (m := mz) hli hri
      generalize bq x z ci di = q2 at *
      rw [hnn] at hrow ⊢
      clear hbel hne hD hst hk hlen hup hdn hkl hvi hli hri hvg hS hT
      go_wp2_with (at_builtin; refine wpList_append_own _ rfl _ _ 85 rfl w.heap.size tyP i0 (.pointer none) 1 8 Try.underlying85 hi hz0 hz1 hz2 rfl (by decide) _ _ _ rfl (hrow.alloc _) ⟨wr.heap.size, 0, none⟩ 1 1 [.pointer (some ⟨g, 0, none⟩)] rfl rfl (cell_one_new _ _ _) (by simp [Value.oneCell']) (by unfold maxLen; omega) (by omega) (by have := hb.size; simp; omega) ?_; intro v' w2 hown' hgrow _; have hb2 := (hb.alloc hb.size (.cells #[.pointer (some ⟨g, 0, none⟩)] tyP)).grown hgrow (by have := hb.size; simp; omega) (fun k hk => (hrow.lt k hk).1); replace hcl := hcl _ hb2)
      go_wp2_with (go_at_call 69; (with_reducible refine hcl.mono ?_); clear hcl; rintro e w3 ⟨rfl, rfl⟩)
      go_roundg (keys (.node z mz lz rz)).length
      case measure => exact hdec.out
      case rel =>
        refine ⟨(some ⟨g, 0, none⟩, .node y m l r) :: st, .node z mz lz rz, _, q2, rfl, rfl, hq0, hq2, by simp, hdn2, hup2, rfl, ?_, hb2⟩
        rw [List.length_cons, hnn, ptrs_cons]
        exact hown'

/-- x comes in, on top -/
def Got (K : List Int) (x : Int) (t : Tr) : Prop := keys t = K ∧ tk t = x ∧ t ≠ .nil
theorem Got.of {K : List Int} {x : Int} {l r : Tr} (h : keys l ++ x :: keys r = K) : Got K x (.node x 0 l r) := ⟨h, rfl, by simp⟩

set_option maxHeartbeats 8000000 in
theorem put_any {x : Int} {K : List Int} {p : Option Addr} {w : World} (hu : IsG w (.pointer p) (Near x K)) (ha : Asc K) (hx : x ∉ K) :
    Calls Try.prog 41 #[.pointer p, .int .i64 x] w fun e w' => (∃ u, e = .returned u ∧ IsG w' u (Got (ins x K) x)) ∧ Below w.heap.size w w' := by
  obtain ⟨_, t, he, hn, hN⟩ := hu
  cases he
  have Kw := Below.refl w.heap.size w
  rcases t with _ | ⟨y, m, l, r⟩
  · obtain rfl : p = none := hn
    obtain rfl := hN.empty
    have o1 : Calls _ _ _ w _ := over_any (x := x) (a := .nil) (b := .nil) (p := none) (q := none) (w := w) ⟨none, rfl, rfl⟩ ⟨none, rfl, rfl⟩
    have hdone : Hid (∀ W u, IsT W u (.node x 0 .nil .nil) → IsG W u (Got (ins x []) x)) := Lib.hid fun W u h => h.g (Got.of rfl)
    clear hN
    go_enter Try.func41, Try.ntmps41
    go_wp2_with (go_at_call 51; (with_reducible refine o1.mono ?_); clear o1; rintro e w1 ⟨⟨u, rfl, hu⟩, hb1⟩; replace hu := hdone.out _ _ hu; clear hdone)
    go_ret
    exact ⟨⟨_, rfl, hu⟩, hb1⟩
  have hyx : y ≠ x := fun h => hx (hN.has.1 h)
  obtain ⟨g, c, d, rfl, hg, hv, hl, hr⟩ := hn
  have g0 := hv.cell 0
  have g2 := hv.cell 2
  have g3 := hv.cell 3
  simp only [List.getElem?_cons_zero, List.getElem?_cons_succ] at g0 g2 g3
  by_cases hlt : x < y
  · have o1 := fun W (hW : Below w.heap.size w W) => over_any (x := y) (a := .nil) (p := none) (w := W) ⟨none, rfl, rfl⟩ (hr.grow hW hW.size).t
    have o2 := fun W q (hW : Below w.heap.size w W) (hq : IsT W (.pointer q) (.node y 0 .nil r)) => over_any (x := x) (w := W) (hl.grow hW hW.size).t hq
    have hdone : Hid (∀ W u, IsT W u (.node x 0 l (.node y 0 .nil r)) → IsG W u (Got (ins x K) x)) := Lib.hid fun W u h => h.g (Got.of (hN.ins_left ha hlt))
    clear hN hv hl hr ha hx hyx
    go_enter Try.func41, Try.ntmps41
    go_wp2_with fail
    apply rel.region_tail (C := fun w' => Below w.heap.size w w') (X := fun w w' => Below w.heap.size w w') 15 (by kernel_rfl) (by kernel_rfl) (by kernel_rfl) (by kernel_rfl) ((Below.refl w.heap.size w).drew)
    (apply rel.walk_val; (focus (intro wq hq hf; go_wp2; refine ⟨hq, Below.refl _ _, ?_, rfl⟩; (show rel.slot _ _ = _; simp only [rel.slot_lit, List.getD_cons_succ, List.getD_cons_zero]; (first | done | exact rfl)))); (simp only [rel.put_lit, List.set_cons_succ, List.set_cons_zero]))
    (apply rel.walk_val; (focus (intro wq hq hf; go_wp2; refine ⟨hq, Below.refl _ _, ?_, rfl⟩; (show rel.slot _ _ = _; simp only [rel.slot_lit, List.getD_cons_succ, List.getD_cons_zero]; (first | done | exact rfl)))); (simp only [rel.put_lit, List.set_cons_succ, List.set_cons_zero]))
    (apply rel.walk_val; (focus (intro wq hq hf; go_wp2; refine ⟨hq, Below.refl _ _, ?_, rfl⟩; (show rel.slot _ _ = _; simp only [rel.slot_lit, List.getD_cons_succ, List.getD_cons_zero]; (first | done | exact rfl)))); (simp only [rel.put_lit, List.set_cons_succ, List.set_cons_zero]))
    (apply rel.walk_val; (focus (intro wq hq hf; go_wp2; refine ⟨hq, Below.refl _ _, ?_, rfl⟩; (show rel.slot _ _ = _; simp only [rel.slot_lit, List.getD_cons_succ, List.getD_cons_zero]; (first | done | exact rfl)))); (simp only [rel.put_lit, List.set_cons_succ, List.set_cons_zero]))
    ((apply rel.walk_val; (focus (intro wq hq hf; (have d0 := (hq.cell (p := ⟨g, 2, none⟩) hg).trans g2); go_wp2; refine ⟨hq, Below.refl _ _, ?_, rfl⟩; (show rel.slot _ _ = _; simp only [rel.slot_lit, List.getD_cons_succ, List.getD_cons_zero]; (first | done | exact rfl)))); (simp only [rel.put_lit, List.set_cons_succ, List.set_cons_zero])))
    (apply rel.walk_val; (focus (intro wq hq hf; go_wp2; refine ⟨hq, Below.refl _ _, ?_, rfl⟩; (show rel.slot _ _ = _; simp only [rel.slot_lit, List.getD_cons_succ, List.getD_cons_zero]; (first | done | exact rfl)))); (simp only [rel.put_lit, List.set_cons_succ, List.set_cons_zero]))
    (apply rel.walk_val; (focus (intro wq hq hf; go_wp2; refine ⟨hq, Below.refl _ _, ?_, rfl⟩; (show rel.slot _ _ = _; simp only [rel.slot_lit, List.getD_cons_succ, List.getD_cons_zero]; (first | done | exact rfl)))); (simp only [rel.put_lit, List.set_cons_succ, List.set_cons_zero]))
    (apply rel.walk_val; (focus (intro wq hq hf; go_wp2; refine ⟨hq, Below.refl _ _, ?_, rfl⟩; (show rel.slot _ _ = _; simp only [rel.slot_lit, List.getD_cons_succ, List.getD_cons_zero]; (first | done | exact rfl)))); (simp only [rel.put_lit, List.set_cons_succ, List.set_cons_zero]))
    ((apply rel.walk_val; (focus (intro wq hq hf; (have d0 := (hq.cell (p := ⟨g, 0, none⟩) hg).trans g0); go_wp2; refine ⟨hq, Below.refl _ _, ?_, rfl⟩; (show rel.slot _ _ = _; simp only [rel.slot_lit, List.getD_cons_succ, List.getD_cons_zero]; (first | done | exact rfl)))); (simp only [rel.put_lit, List.set_cons_succ, List.set_cons_zero])))
    (apply rel.walk_val; (focus (intro wq hq hf; go_wp2; refine ⟨hq, Below.refl _ _, ?_, rfl⟩; (show rel.slot _ _ = _; simp only [rel.slot_lit, List.getD_cons_succ, List.getD_cons_zero]; (first | done | exact rfl)))); (simp only [rel.put_lit, List.set_cons_succ, List.set_cons_zero]))
    (apply rel.walk_val; (focus (intro wq hq hf; go_wp2; refine ⟨hq, Below.refl _ _, ?_, rfl⟩; (show rel.slot _ _ = _; simp only [rel.slot_lit, List.getD_cons_succ, List.getD_cons_zero]; (first | done | exact rfl)))); (simp only [rel.put_lit, List.set_cons_succ, List.set_cons_zero]))
    (apply rel.walk_val; (focus (intro wq hq hf; go_wp2; refine ⟨hq, Below.refl _ _, ?_, rfl⟩; (show rel.slot _ _ = _; simp only [rel.slot_lit, List.getD_cons_succ, List.getD_cons_zero]; (first | done | exact rfl)))); (simp only [rel.put_lit, List.set_cons_succ, List.set_cons_zero]))
    ((apply rel.walk_val; (focus (intro wq hq hf; (have d0 := (hq.cell (p := ⟨g, 3, none⟩) hg).trans g3); go_wp2; refine ⟨hq, Below.refl _ _, ?_, rfl⟩; (show rel.slot _ _ = _; simp only [rel.slot_lit, List.getD_cons_succ, List.getD_cons_zero]; (first | done | exact rfl)))); (simp only [rel.put_lit, List.set_cons_succ, List.set_cons_zero])))
    (apply rel.walk_rel (fun u w' => sch.IsT w' u (.node y 0 .nil r)) ⟨_, rfl⟩ (fun u w1 w2 h1 h2 => h2.on h1); (focus (intro wq hq hf; go_wp2_with (go_at_call 51; with_reducible refine (o1 _ hq).mono ?_; rintro e w'' ⟨⟨u, rfl, hu⟩, hb⟩); refine ⟨hq.trans (hb.mono hq.size), hb, ?_, rfl⟩; (show sch.IsT _ (rel.slot _ _) _; simp only [rel.slot_lit, List.getD_cons_succ, List.getD_cons_zero]; exact hu))); (intro u wu _ hu; obtain ⟨pu, rfl, -⟩ := hu; (simp only [rel.put_lit, List.set_cons_succ, List.set_cons_zero])))
    (apply rel.walk_rel (fun u w' => sch.IsT w' u (.node x 0 l (.node y 0 .nil r))) ⟨_, rfl⟩ (fun u w1 w2 h1 h2 => h2.on h1); (focus (intro wq hq hf; go_wp2_with (go_at_call 51; with_reducible refine (o2 _ _ hq (hf.get 0 rfl rfl)).mono ?_; rintro e w'' ⟨⟨u, rfl, hu⟩, hb⟩); refine ⟨hq.trans (hb.mono hq.size), hb, ?_, rfl⟩; (show sch.IsT _ (rel.slot _ _) _; simp only [rel.slot_lit, List.getD_cons_succ, List.getD_cons_zero]; exact hu))); (intro u wu _ hu; obtain ⟨pz, rfl, -⟩ := hu; (simp only [rel.put_lit, List.set_cons_succ, List.set_cons_zero])))
    refine rel.walk_nil ?_
    intro w9 K9 hF
    have hu : IsT w9 (.pointer pz) (.node x 0 l (.node y 0 .nil r)) := hF _ (List.mem_cons_self ..)
    replace hu := hdone.out _ _ hu
    clear hF o1 o2 hdone
    simp only [List.drop_succ_cons, List.drop_zero]
    go_wp2
    go_ret
    exact ⟨⟨_, rfl, hu⟩, K9⟩
  · have hgt : y < x := by omega
    have o1 := fun W (hW : Below w.heap.size w W) => over_any (x := y) (b := .nil) (q := none) (w := W) (hl.grow hW hW.size).t ⟨none, rfl, rfl⟩
    have o2 := fun W q (hW : Below w.heap.size w W) (hq : IsT W (.pointer q) (.node y 0 l .nil)) => over_any (x := x) (w := W) hq (hr.grow hW hW.size).t
    have hdone : Hid (∀ W u, IsT W u (.node x 0 (.node y 0 l .nil) r) → IsG W u (Got (ins x K) x)) := Lib.hid fun W u h => h.g (Got.of (by rw [← hN.ins_right ha hgt]; simp [keys]))
    clear hN hv hl hr ha hx hyx
    go_enter Try.func41, Try.ntmps41
    go_wp2_with fail
    apply rel.region_tail (C := fun w' => Below w.heap.size w w') (X := fun w w' => Below w.heap.size w w') 15 (by kernel_rfl) (by kernel_rfl) (by kernel_rfl) (by kernel_rfl) ((Below.refl w.heap.size w).drew)
    (apply rel.walk_val; (focus (intro wq hq hf; go_wp2; refine ⟨hq, Below.refl _ _, ?_, rfl⟩; (show rel.slot _ _ = _; simp only [rel.slot_lit, List.getD_cons_succ, List.getD_cons_zero]; (first | done | exact rfl)))); (simp only [rel.put_lit, List.set_cons_succ, List.set_cons_zero]))
    (apply rel.walk_val; (focus (intro wq hq hf; go_wp2; refine ⟨hq, Below.refl _ _, ?_, rfl⟩; (show rel.slot _ _ = _; simp only [rel.slot_lit, List.getD_cons_succ, List.getD_cons_zero]; (first | done | exact rfl)))); (simp only [rel.put_lit, List.set_cons_succ, List.set_cons_zero]))
    (apply rel.walk_val; (focus (intro wq hq hf; go_wp2; refine ⟨hq, Below.refl _ _, ?_, rfl⟩; (show rel.slot _ _ = _; simp only [rel.slot_lit, List.getD_cons_succ, List.getD_cons_zero]; (first | done | exact rfl)))); (simp only [rel.put_lit, List.set_cons_succ, List.set_cons_zero]))
    (apply rel.walk_val; (focus (intro wq hq hf; go_wp2; refine ⟨hq, Below.refl _ _, ?_, rfl⟩; (show rel.slot _ _ = _; simp only [rel.slot_lit, List.getD_cons_succ, List.getD_cons_zero]; (first | done | exact rfl)))); (simp only [rel.put_lit, List.set_cons_succ, List.set_cons_zero]))
    ((apply rel.walk_val; (focus (intro wq hq hf; (have d0 := (hq.cell (p := ⟨g, 0, none⟩) hg).trans g0); go_wp2; refine ⟨hq, Below.refl _ _, ?_, rfl⟩; (show rel.slot _ _ = _; simp only [rel.slot_lit, List.getD_cons_succ, List.getD_cons_zero]; (first | done | exact rfl)))); (simp only [rel.put_lit, List.set_cons_succ, List.set_cons_zero])))
    (apply rel.walk_val; (focus (intro wq hq hf; go_wp2; refine ⟨hq, Below.refl _ _, ?_, rfl⟩; (show rel.slot _ _ = _; simp only [rel.slot_lit, List.getD_cons_succ, List.getD_cons_zero]; (first | done | exact rfl)))); (simp only [rel.put_lit, List.set_cons_succ, List.set_cons_zero]))
    (apply rel.walk_val; (focus (intro wq hq hf; go_wp2; refine ⟨hq, Below.refl _ _, ?_, rfl⟩; (show rel.slot _ _ = _; simp only [rel.slot_lit, List.getD_cons_succ, List.getD_cons_zero]; (first | done | exact rfl)))); (simp only [rel.put_lit, List.set_cons_succ, List.set_cons_zero]))
    (apply rel.walk_val; (focus (intro wq hq hf; go_wp2; refine ⟨hq, Below.refl _ _, ?_, rfl⟩; (show rel.slot _ _ = _; simp only [rel.slot_lit, List.getD_cons_succ, List.getD_cons_zero]; (first | done | exact rfl)))); (simp only [rel.put_lit, List.set_cons_succ, List.set_cons_zero]))
    ((apply rel.walk_val; (focus (intro wq hq hf; (have d0 := (hq.cell (p := ⟨g, 2, none⟩) hg).trans g2); go_wp2; refine ⟨hq, Below.refl _ _, ?_, rfl⟩; (show rel.slot _ _ = _; simp only [rel.slot_lit, List.getD_cons_succ, List.getD_cons_zero]; (first | done | exact rfl)))); (simp only [rel.put_lit, List.set_cons_succ, List.set_cons_zero])))
    (apply rel.walk_rel (fun u w' => sch.IsT w' u (.node y 0 l .nil)) ⟨_, rfl⟩ (fun u w1 w2 h1 h2 => h2.on h1); (focus (intro wq hq hf; go_wp2_with (go_at_call 51; with_reducible refine (o1 _ hq).mono ?_; rintro e w'' ⟨⟨u, rfl, hu⟩, hb⟩); refine ⟨hq.trans (hb.mono hq.size), hb, ?_, rfl⟩; (show sch.IsT _ (rel.slot _ _) _; simp only [rel.slot_lit, List.getD_cons_succ, List.getD_cons_zero]; exact hu))); (intro u wu _ hu; obtain ⟨pu, rfl, -⟩ := hu; (simp only [rel.put_lit, List.set_cons_succ, List.set_cons_zero])))
    (apply rel.walk_val; (focus (intro wq hq hf; go_wp2; refine ⟨hq, Below.refl _ _, ?_, rfl⟩; (show rel.slot _ _ = _; simp only [rel.slot_lit, List.getD_cons_succ, List.getD_cons_zero]; (first | done | exact rfl)))); (simp only [rel.put_lit, List.set_cons_succ, List.set_cons_zero]))
    (apply rel.walk_val; (focus (intro wq hq hf; go_wp2; refine ⟨hq, Below.refl _ _, ?_, rfl⟩; (show rel.slot _ _ = _; simp only [rel.slot_lit, List.getD_cons_succ, List.getD_cons_zero]; (first | done | exact rfl)))); (simp only [rel.put_lit, List.set_cons_succ, List.set_cons_zero]))
    (apply rel.walk_val; (focus (intro wq hq hf; go_wp2; refine ⟨hq, Below.refl _ _, ?_, rfl⟩; (show rel.slot _ _ = _; simp only [rel.slot_lit, List.getD_cons_succ, List.getD_cons_zero]; (first | done | exact rfl)))); (simp only [rel.put_lit, List.set_cons_succ, List.set_cons_zero]))
    ((apply rel.walk_val; (focus (intro wq hq hf; (have d0 := (hq.cell (p := ⟨g, 3, none⟩) hg).trans g3); go_wp2; refine ⟨hq, Below.refl _ _, ?_, rfl⟩; (show rel.slot _ _ = _; simp only [rel.slot_lit, List.getD_cons_succ, List.getD_cons_zero]; (first | done | exact rfl)))); (simp only [rel.put_lit, List.set_cons_succ, List.set_cons_zero])))
    (apply rel.walk_rel (fun u w' => sch.IsT w' u (.node x 0 (.node y 0 l .nil) r)) ⟨_, rfl⟩ (fun u w1 w2 h1 h2 => h2.on h1); (focus (intro wq hq hf; go_wp2_with (go_at_call 51; with_reducible refine (o2 _ _ hq (hf.get 0 rfl rfl)).mono ?_; rintro e w'' ⟨⟨u, rfl, hu⟩, hb⟩); refine ⟨hq.trans (hb.mono hq.size), hb, ?_, rfl⟩; (show sch.IsT _ (rel.slot _ _) _; simp only [rel.slot_lit, List.getD_cons_succ, List.getD_cons_zero]; exact hu))); (intro u wu _ hu; obtain ⟨pz, rfl, -⟩ := hu; (simp only [rel.put_lit, List.set_cons_succ, List.set_cons_zero])))
    refine rel.walk_nil ?_
    intro w9 K9 hF
    have hu : IsT w9 (.pointer pz) (.node x 0 (.node y 0 l .nil) r) := hF _ (List.mem_cons_self ..)
    replace hu := hdone.out _ _ hu
    clear hF o1 o2 hdone
    simp only [List.drop_succ_cons, List.drop_zero]
    go_wp2
    go_ret
    exact ⟨⟨_, rfl, hu⟩, K9⟩

/-- these numbers -/
def Has (K : List Int) (t : Tr) : Prop := keys t = K

set_option maxHeartbeats 8000000 in
theorem concat_any {l r : Tr} {c d : Option Addr} {w : World} (hl : Nod w.heap.size w l c) (hr : Nod w.heap.size w r d) (ha : Asc (keys r)) (hS : (keys r).length ≤ 17592186044416) :
    Calls Try.prog 40 #[.pointer c, .pointer d] w fun e w' => (∃ u, e = .returned u ∧ IsG w' u (Has (keys l ++ keys r))) ∧ Below w.heap.size w w' := by
  by_cases hr0 : r = .nil
  · subst hr0
    obtain rfl : d = none := hr
    have hdone : IsG w (.pointer c) (Has (keys l ++ keys .nil)) := ⟨c, l, rfl, hl, by simp [Has, keys]⟩
    clear hl ha hS
    generalize Has (keys l ++ keys .nil) = GL at *
    go_enter Try.func40, Try.ntmps40
    go_wp2_with fail
    go_ret
    exact ⟨⟨_, rfl, hdone⟩, Below.refl _ _⟩
  obtain ⟨z, tl, hz⟩ := keys_ne hr0
  obtain ⟨gr, rfl, hgr⟩ := hr.some hr0
  have hle := least_any (z := z) hr (by rw [hz]; rfl)
  have hsp := fun W (hW : Below w.heap.size w W) => splayed_any (x := z) (hr.grow hW hW.size) ha hS
  rw [hz] at ha hsp ⊢
  clear hr hS hr0 hgr
  go_enter Try.func40, Try.ntmps40
  go_wp2_with (first
    | (go_at_call 63; (with_reducible refine hle.mono ?_); clear hle; rintro e w1 ⟨rfl, hb1⟩; replace hsp := hsp _ hb1)
    | (go_at_call 52; (with_reducible refine hsp.mono ?_); clear hsp; rintro e w2 ⟨⟨u, rfl, hu⟩, hb2⟩; (obtain ⟨q, s, rfl, hn, hN⟩ := hu); (rcases s with _ | ⟨y, m, sl, sr⟩; (exact absurd hN.empty (by simp))); (obtain ⟨e1, e2, e3⟩ := hN.head ha); (obtain ⟨g, cg, dg, rfl, hg, hv, hgl, hgr⟩ := hn)))
  have Kw := hb1.trans (hb2.mono hb1.size)
  have o1 := fun W (hW : Below w2.heap.size w2 W) => over_any (x := y) (a := l) (b := sr) (p := c) (q := dg) (w := W) (hl.grow (Kw.trans (hW.mono Kw.size)) (Nat.le_trans Kw.size hW.size)).t (hgr.grow hW hW.size).t
  have hdone : Hid (∀ W u, IsT W u (.node y 0 l sr) → IsG W u (Has (keys l ++ z :: tl))) := Lib.hid fun W u h => h.g (by unfold Has; simp only [keys]; rw [e1, e3])
  have g0 := hv.cell 0
  have g3 := hv.cell 3
  simp only [List.getElem?_cons_zero, List.getElem?_cons_succ] at g0 g3
  clear hN e1 e2 e3 hv hgl hgr hl ha hz hb1 hb2
  go_wp2_with fail
  apply rel.region_tail (C := fun w' => Below w2.heap.size w2 w') (X := fun w w' => Below w.heap.size w w') 10 (by kernel_rfl) (by kernel_rfl) (by kernel_rfl) (by kernel_rfl) ((Below.refl w2.heap.size w2).drew)
  (apply rel.walk_val; (focus (intro wq hq hf; go_wp2; refine ⟨hq, Below.refl _ _, ?_, rfl⟩; (show rel.slot _ _ = _; simp only [rel.slot_lit, List.getD_cons_succ, List.getD_cons_zero]; (first | done | exact rfl)))); (simp only [rel.put_lit, List.set_cons_succ, List.set_cons_zero]))
  (apply rel.walk_val; (focus (intro wq hq hf; go_wp2; refine ⟨hq, Below.refl _ _, ?_, rfl⟩; (show rel.slot _ _ = _; simp only [rel.slot_lit, List.getD_cons_succ, List.getD_cons_zero]; (first | done | exact rfl)))); (simp only [rel.put_lit, List.set_cons_succ, List.set_cons_zero]))
  (apply rel.walk_val; (focus (intro wq hq hf; go_wp2; refine ⟨hq, Below.refl _ _, ?_, rfl⟩; (show rel.slot _ _ = _; simp only [rel.slot_lit, List.getD_cons_succ, List.getD_cons_zero]; (first | done | exact rfl)))); (simp only [rel.put_lit, List.set_cons_succ, List.set_cons_zero]))
  ((apply rel.walk_val; (focus (intro wq hq hf; (have d0 := (hq.cell (p := ⟨g, 0, none⟩) hg).trans g0); go_wp2; refine ⟨hq, Below.refl _ _, ?_, rfl⟩; (show rel.slot _ _ = _; simp only [rel.slot_lit, List.getD_cons_succ, List.getD_cons_zero]; (first | done | exact rfl)))); (simp only [rel.put_lit, List.set_cons_succ, List.set_cons_zero])))
  (apply rel.walk_val; (focus (intro wq hq hf; go_wp2; refine ⟨hq, Below.refl _ _, ?_, rfl⟩; (show rel.slot _ _ = _; simp only [rel.slot_lit, List.getD_cons_succ, List.getD_cons_zero]; (first | done | exact rfl)))); (simp only [rel.put_lit, List.set_cons_succ, List.set_cons_zero]))
  (apply rel.walk_val; (focus (intro wq hq hf; go_wp2; refine ⟨hq, Below.refl _ _, ?_, rfl⟩; (show rel.slot _ _ = _; simp only [rel.slot_lit, List.getD_cons_succ, List.getD_cons_zero]; (first | done | exact rfl)))); (simp only [rel.put_lit, List.set_cons_succ, List.set_cons_zero]))
  (apply rel.walk_val; (focus (intro wq hq hf; go_wp2; refine ⟨hq, Below.refl _ _, ?_, rfl⟩; (show rel.slot _ _ = _; simp only [rel.slot_lit, List.getD_cons_succ, List.getD_cons_zero]; (first | done | exact rfl)))); (simp only [rel.put_lit, List.set_cons_succ, List.set_cons_zero]))
  (apply rel.walk_val; (focus (intro wq hq hf; go_wp2; refine ⟨hq, Below.refl _ _, ?_, rfl⟩; (show rel.slot _ _ = _; simp only [rel.slot_lit, List.getD_cons_succ, List.getD_cons_zero]; (first | done | exact rfl)))); (simp only [rel.put_lit, List.set_cons_succ, List.set_cons_zero]))
  ((apply rel.walk_val; (focus (intro wq hq hf; (have d0 := (hq.cell (p := ⟨g, 3, none⟩) hg).trans g3); go_wp2; refine ⟨hq, Below.refl _ _, ?_, rfl⟩; (show rel.slot _ _ = _; simp only [rel.slot_lit, List.getD_cons_succ, List.getD_cons_zero]; (first | done | exact rfl)))); (simp only [rel.put_lit, List.set_cons_succ, List.set_cons_zero])))
  (apply rel.walk_rel (fun u w' => sch.IsT w' u (.node y 0 l sr)) ⟨_, rfl⟩ (fun u w1 w2 h1 h2 => h2.on h1); (focus (intro wq hq hf; go_wp2_with (go_at_call 51; with_reducible refine (o1 _ hq).mono ?_; rintro e w'' ⟨⟨u, rfl, hu⟩, hb⟩); refine ⟨hq.trans (hb.mono hq.size), hb, ?_, rfl⟩; (show sch.IsT _ (rel.slot _ _) _; simp only [rel.slot_lit, List.getD_cons_succ, List.getD_cons_zero]; exact hu))); (intro u wu _ hu; obtain ⟨pz, rfl, -⟩ := hu; (simp only [rel.put_lit, List.set_cons_succ, List.set_cons_zero])))
  refine rel.walk_nil ?_
  intro w9 K9 hF
  have hu : IsT w9 (.pointer pz) (.node y 0 l sr) := hF _ (List.mem_cons_self ..)
  replace hu := hdone.out _ _ hu
  clear hF o1 hdone
  simp only [List.drop_succ_cons, List.drop_zero]
  go_wp2
  go_ret
  exact ⟨⟨_, rfl, hu⟩, Kw.trans (K9.mono Kw.size)⟩
end Go.Proofs.Ytlaflhnnddfkkaa.spl
