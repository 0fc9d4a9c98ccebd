/- Package splay: Put, Drop, Of. -/
import Derived.Test.YtlaflhnnddfkkaaSplSet
namespace Go.Proofs.Ytlaflhnnddfkkaa.spl
open Go Go.RowKit
open Go.Proofs.Ytlaflhnnddfkkaa.sch

/-- x on top -/
def Tk (x : Int) (t : Tr) : Prop := tk t = x ∧ t ≠ .nil
theorem Near.tk {x : Int} {K : List Int} {t : Tr} (h : Near x K t) (hx : x ∈ K) : Tk x t := by
  rcases t with _ | ⟨y, m, l, r⟩
  · have := h.empty
    rw [this] at hx
    simp at hx
  · exact ⟨h.has.2 hx, by simp⟩
/-- the tree that Find has left, below the top -/
theorem root_near {x : Int} {K : List Int} {w : World} {q : Option Addr} {n : Int} (h : IsSetG (Near x K) w w.heap.size (.agg #[.pointer q, .int .i64 n]) K) (hx : x ∈ K) :
    ∃ g m c d l r, q = some ⟨g, 0, none⟩ ∧ hp.Blk w g tyT [.int .i64 x, .int .i64 m, .pointer c, .pointer d] ∧ Nod w.heap.size w l c ∧ Nod w.heap.size w r d ∧ K = keys l ++ x :: keys r := by
  obtain ⟨_, t, he, hn, hg, hk⟩ := h.g
  cases he
  rcases t with _ | ⟨y, m, l, r⟩
  · rw [hg.empty] at hx
    simp at hx
  · obtain ⟨g, c, d, rfl, -, hv, hl, hr⟩ := hn
    obtain rfl := hg.has.2 hx
    exact ⟨g, m, c, d, l, r, rfl, hv, hl, hr, hk.symm⟩

set_option maxHeartbeats 8000000 in
theorem set_put {v : Value} {l : List Int} {x : Int} {w : World} (hv : IsSet w w.heap.size v l) (hx : (Lit.int .i64 x).wf = true) (hbd : l.length ≤ 17592186044416) :
    Calls Try.prog 12 #[v, .int .i64 x] w fun e w' => (∃ q, e = .returned (rv q (ins x l).length) ∧ IsSetG (Tk x) w' w'.heap.size (rv q (ins x l).length) (ins x l)) ∧ Below w.heap.size w w' := by
  obtain ⟨p, rfl⟩ := hv.val
  have ha := hv.asc
  have hw := hv.wf
  obtain ⟨Wa, hW0⟩ : ∃ Wa, ((w.alloc (.cells #[.pointer p, .int .i64 l.length] tyH)).alloc (.cells #[.pointer none, .int .i64 0] tyH)) = Wa := ⟨_, rfl⟩
  have hR : hp.Blk Wa (w.heap.size + 1) tyH [.pointer none, .int .i64 0] := by
    rw [← hW0]
    exact hp.Blk.newAt (by simp)
  have hA : hp.Blk Wa w.heap.size tyH [.pointer p, .int .i64 l.length] := by
    rw [← hW0]
    exact (hp.Blk.newAt (by simp)).alloc _
  have hb0 : Below w.heap.size w Wa := by
    rw [← hW0]
    ((repeat' (first | with_reducible exact Below.refl _ _ | with_reducible apply Below.setCell | with_reducible apply below_drewN | with_reducible apply Below.drew | with_reducible apply Below.alloc | with_reducible refine Below.trans ?_ (Below.mono (by assumption) ?_))) <;> (first | (simp; done) | (simp; omega) | omega))
  have hcl := find_any (x := x) (hv.on hb0) hbd
  obtain ⟨c0, c1⟩ := hA.cells2
  obtain ⟨N, hN⟩ : ∃ N : Int, (l.length : Int) = N := ⟨_, rfl⟩
  have hN2 : 0 ≤ N ∧ N ≤ 17592186044416 := by omega
  obtain ⟨hN3, hN4⟩ := hN2
  rw [hN] at c1 hA hW0
  simp only [rv, hN] at hcl
  rw [show rv p l.length = .agg #[.pointer p, .int .i64 N] by rw [← hN]]
  clear hv
  by_cases hm : x ∈ l
  · have hsame : ins x l = l := ins_same ha hm
    rw [hsame]
    rw [show decide (x ∈ l) = true by simpa using hm] at hcl
    clear ha hw hsame hbd
    go_enter Try.func12, Try.ntmps12
    go_wp2_with (go_at_call 23; (with_reducible refine hcl.mono ?_); clear hcl; rintro e w1 ⟨⟨q, rfl, hF⟩, hb1⟩; replace hA := hA.on hb1; replace hR := hR.on hb1; have K := hb0.trans (hb1.mono hb0.size); clear c0 c1 hb1 hb0 hW0; (obtain ⟨W3, hW3⟩ : ∃ W3, w1.alloc (.cells #[.pointer q, .int .i64 N] tyH) = W3 := ⟨_, rfl⟩); have hb3 : Below w1.heap.size w1 W3 := (by rw [← hW3]; exact (Below.refl _ _).alloc (Nat.le_refl _) _); have hS : hp.Blk W3 w1.heap.size tyH [.pointer q, .int .i64 N] := (by rw [← hW3]; exact hp.Blk.newAt rfl); have hQ := hF.on hb3; (have hA3 := hA.on hb3); (have hR3 := hR.on hb3); have hB3 := K.trans (hb3.mono K.size); have l1 := hR.lt; rw [← hN] at hQ; (obtain ⟨e0, e1⟩ := hS.cells2); (obtain ⟨r0, r1⟩ := hR3.cells2); have rf0 := hR3.free 0; have rf1 := hR3.free 1; clear hF hA hR hb3)
    obtain ⟨W9, hW9, hS9, hQ9, hB9, -⟩ := stored (k := N) hN.symm hR3 (by omega) hB3 hQ
    rw [hW9]
    obtain ⟨g0, g1⟩ := hS9.cells2
    refine bodyPost_ret (v := rv q l.length) (by simp [results, Try.results12, go_sem, g0, g1]) rfl ⟨⟨_, rfl, hQ9.imp fun t ht => ht.tk hm⟩, hB9⟩
  · rw [show decide (x ∈ l) = false by simpa using hm] at hcl
    have hlen := ins_len ha hm
    have hwr : N + 1 = ((ins x l).length : Int) := by omega
    have hpt := fun W p (hu : IsG W (.pointer p) (Near x l)) => put_any hu ha hm
    have hdone : Hid (∀ W q, IsG W (.pointer q) (Got (ins x l) x) → IsSetG (Tk x) W W.heap.size (rv q (ins x l).length) (ins x l)) := Lib.hid fun W q h => isSet_of h (fun t ht => ⟨⟨ht.2.1, ht.2.2⟩, ht.1⟩) (ins_asc x ha) (ins_wf hx hw)
    obtain ⟨M, hM⟩ : ∃ M, ins x l = M := ⟨_, rfl⟩
    rw [hM] at hwr hdone hpt ⊢
    replace hwr := Lib.hid hwr
    generalize Got M x = GT at *
    clear ha hw hm hM hlen hx hbd
    go_enter Try.func12, Try.ntmps12
    go_wp2_with (go_at_call 23; (with_reducible refine hcl.mono ?_); clear hcl; rintro e w1 ⟨⟨q, rfl, hF⟩, hb1⟩; replace hA := hA.on hb1; replace hR := hR.on hb1; have K := hb0.trans (hb1.mono hb0.size); clear c0 c1 hb1 hb0 hW0; (obtain ⟨W3, hW3⟩ : ∃ W3, w1.alloc (.cells #[.pointer q, .int .i64 N] tyH) = W3 := ⟨_, rfl⟩); have hb3 : Below w1.heap.size w1 W3 := (by rw [← hW3]; exact (Below.refl _ _).alloc (Nat.le_refl _) _); have hS : hp.Blk W3 w1.heap.size tyH [.pointer q, .int .i64 N] := (by rw [← hW3]; exact hp.Blk.newAt rfl); have hQ := hF.on hb3; (have hA3 := hA.on hb3); (have hR3 := hR.on hb3); have hB3 := K.trans (hb3.mono K.size); have l1 := hR.lt; rw [← hN] at hQ; (obtain ⟨e0, e1⟩ := hS.cells2); (obtain ⟨r0, r1⟩ := hR3.cells2); have rf0 := hR3.free 0; have rf1 := hR3.free 1; clear hF hA hR hb3)
    have hGN : IsG W3 (.pointer q) (Near x l) := hQ.g.imp fun t ht => ht.1
    apply rel.region_tail (C := fun w' => Below W3.heap.size W3 w') (X := fun w w' => Below w.heap.size w w') 7 (by kernel_rfl) (by kernel_rfl) (by kernel_rfl) (by kernel_rfl) ((Below.refl W3.heap.size W3).drew)
    (apply rel.walk_val; (focus (intro wq hq hf; go_wp2; refine ⟨hq, Below.refl _ _, ?_, rfl⟩; (show rel.slot _ _ = _; simp only [rel.slot_lit, List.getD_cons_succ, List.getD_cons_zero]; (first | done | exact rfl)))); (simp only [rel.put_lit, List.set_cons_succ, List.set_cons_zero]))
    ((apply rel.walk_val; (focus (intro wq hq hf; (obtain ⟨d0, d1⟩ := ((hS).below hq (hS).lt).cells2); go_wp2; refine ⟨hq, Below.refl _ _, ?_, rfl⟩; (show rel.slot _ _ = _; simp only [rel.slot_lit, List.getD_cons_succ, List.getD_cons_zero]; (first | done | exact rfl)))); (simp only [rel.put_lit, List.set_cons_succ, List.set_cons_zero])))
    (apply rel.walk_val; (focus (intro wq hq hf; go_wp2; refine ⟨hq, Below.refl _ _, ?_, rfl⟩; (show rel.slot _ _ = _; simp only [rel.slot_lit, List.getD_cons_succ, List.getD_cons_zero]; (first | done | exact rfl)))); (simp only [rel.put_lit, List.set_cons_succ, List.set_cons_zero]))
    (apply rel.walk_rel (fun u w' => sch.IsG w' u (GT)) ⟨_, rfl⟩ (fun u w1 w2 h1 h2 => h2.on h1); (focus (intro wq hq hf; go_wp2_with (go_at_call 41; with_reducible refine (hpt _ _ (hGN.on hq)).mono ?_; rintro e w'' ⟨⟨u, rfl, hu⟩, hb⟩); refine ⟨hq.trans (hb.mono hq.size), hb, ?_, rfl⟩; (show sch.IsG _ (rel.slot _ _) _; simp only [rel.slot_lit, List.getD_cons_succ, List.getD_cons_zero]; exact hu))); (intro u wu _ hu; obtain ⟨pz, t_pz, rfl, -⟩ := hu; (simp only [rel.put_lit, List.set_cons_succ, List.set_cons_zero])))
    (apply rel.walk_val; (focus (intro wq hq hf; go_wp2; refine ⟨hq, Below.refl _ _, ?_, rfl⟩; (show rel.slot _ _ = _; simp only [rel.slot_lit, List.getD_cons_succ, List.getD_cons_zero]; (first | done | exact rfl)))); (simp only [rel.put_lit, List.set_cons_succ, List.set_cons_zero]))
    ((apply rel.walk_val; (focus (intro wq hq hf; (obtain ⟨d0, d1⟩ := ((hA3).below hq (hA3).lt).cells2); go_wp2; refine ⟨hq, Below.refl _ _, ?_, rfl⟩; (show rel.slot _ _ = _; simp only [rel.slot_lit, List.getD_cons_succ, List.getD_cons_zero]; (first | done | exact rfl)))); (simp only [rel.put_lit, List.set_cons_succ, List.set_cons_zero])))
    (apply rel.walk_val; (focus (intro wq hq hf; go_wp2; refine ⟨hq, Below.refl _ _, ?_, rfl⟩; (show rel.slot _ _ = _; simp only [rel.slot_lit, List.getD_cons_succ, List.getD_cons_zero]; (first | done | exact rfl)))); (simp only [rel.put_lit, List.set_cons_succ, List.set_cons_zero]))
    refine rel.walk_nil ?_
    intro w9 K9 hF
    have hu : IsG w9 (.pointer pz) GT := hF _ (List.mem_cons_self ..)
    have hR9 := hR3.on K9
    obtain ⟨d2, d3⟩ := hR9.cells2
    have f2 := hR9.free 0
    have f3 := hR9.free 1
    clear hF r0 r1 rf0 rf1 e0 e1
    simp only [List.drop_succ_cons, List.drop_zero]
    go_wp2_with fail
    rw [hwr.out]
    have hu2 := hdone.out _ _ hu
    obtain ⟨W9, hW9, hS9, hQ9, hB9, -⟩ := stored (k := (M.length : Int)) rfl hR9 (by omega) (hB3.trans (K9.mono hB3.size)) hu2
    rw [hW9]
    obtain ⟨g4, g5⟩ := hS9.cells2
    refine bodyPost_ret (v := rv pz M.length) (by simp [results, Try.results12, go_sem, g4, g5]) rfl ⟨⟨_, rfl, hQ9⟩, hB9⟩

set_option maxHeartbeats 8000000 in
theorem set_drop {v : Value} {l : List Int} {x : Int} {w : World} (hv : IsSet w w.heap.size v l) (hbd : l.length ≤ 17592186044416) :
    Calls Try.prog 10 #[v, .int .i64 x] w fun e w' => (∃ q, e = .returned (rv q (del x l).length) ∧ IsSet w' w'.heap.size (rv q (del x l).length) (del x l)) ∧ Below w.heap.size w w' := by
  obtain ⟨p, rfl⟩ := hv.val
  have ha := hv.asc
  have hw := hv.wf
  obtain ⟨Wa, hW0⟩ : ∃ Wa, ((w.alloc (.cells #[.pointer p, .int .i64 l.length] tyH)).alloc (.cells #[.pointer none, .int .i64 0] tyH)) = Wa := ⟨_, rfl⟩
  have hR : hp.Blk Wa (w.heap.size + 1) tyH [.pointer none, .int .i64 0] := by
    rw [← hW0]
    exact hp.Blk.newAt (by simp)
  have hA : hp.Blk Wa w.heap.size tyH [.pointer p, .int .i64 l.length] := by
    rw [← hW0]
    exact (hp.Blk.newAt (by simp)).alloc _
  have hb0 : Below w.heap.size w Wa := by
    rw [← hW0]
    ((repeat' (first | with_reducible exact Below.refl _ _ | with_reducible apply Below.setCell | with_reducible apply below_drewN | with_reducible apply Below.drew | with_reducible apply Below.alloc | with_reducible refine Below.trans ?_ (Below.mono (by assumption) ?_))) <;> (first | (simp; done) | (simp; omega) | omega))
  have hcl := find_any (x := x) (hv.on hb0) hbd
  obtain ⟨c0, c1⟩ := hA.cells2
  obtain ⟨N, hN⟩ : ∃ N : Int, (l.length : Int) = N := ⟨_, rfl⟩
  have hN2 : 0 ≤ N ∧ N ≤ 17592186044416 := by omega
  obtain ⟨hN3, hN4⟩ := hN2
  rw [hN] at c1 hA hW0
  simp only [rv, hN] at hcl
  rw [show rv p l.length = .agg #[.pointer p, .int .i64 N] by rw [← hN]]
  clear hv
  by_cases hm : x ∉ l
  · have hsame : del x l = l := del_same hm
    rw [hsame]
    rw [show decide (x ∈ l) = false by simpa using hm] at hcl
    clear ha hw hsame hbd
    go_enter Try.func10, Try.ntmps10
    go_wp2_with (go_at_call 23; (with_reducible refine hcl.mono ?_); clear hcl; rintro e w1 ⟨⟨q, rfl, hF⟩, hb1⟩; replace hA := hA.on hb1; replace hR := hR.on hb1; have K := hb0.trans (hb1.mono hb0.size); clear c0 c1 hb1 hb0 hW0; (obtain ⟨W3, hW3⟩ : ∃ W3, w1.alloc (.cells #[.pointer q, .int .i64 N] tyH) = W3 := ⟨_, rfl⟩); have hb3 : Below w1.heap.size w1 W3 := (by rw [← hW3]; exact (Below.refl _ _).alloc (Nat.le_refl _) _); have hS : hp.Blk W3 w1.heap.size tyH [.pointer q, .int .i64 N] := (by rw [← hW3]; exact hp.Blk.newAt rfl); have hQ := hF.on hb3; (have hA3 := hA.on hb3); (have hR3 := hR.on hb3); have hB3 := K.trans (hb3.mono K.size); have l1 := hR.lt; rw [← hN] at hQ; (obtain ⟨e0, e1⟩ := hS.cells2); (obtain ⟨r0, r1⟩ := hR3.cells2); have rf0 := hR3.free 0; have rf1 := hR3.free 1; clear hF hA hR hb3)
    obtain ⟨W9, hW9, hS9, hQ9, hB9, -⟩ := stored (k := N) hN.symm hR3 (by omega) hB3 hQ
    rw [hW9]
    obtain ⟨g0, g1⟩ := hS9.cells2
    refine bodyPost_ret (v := rv q l.length) (by simp [results, Try.results10, go_sem, g0, g1]) rfl ⟨⟨_, rfl, hQ9.any⟩, hB9⟩
  · replace hm : x ∈ l := Classical.not_not.1 hm
    rw [show decide (x ∈ l) = true by simpa using hm] at hcl
    have hlen := del_len ha hm
    have hwr : N - 1 = ((del x l).length : Int) := by omega
    have hdone : Hid (∀ W q, IsG W (.pointer q) (Has (del x l)) → IsSet W W.heap.size (rv q (del x l).length) (del x l)) := Lib.hid fun W q h => isSet_of h (fun t ht => ⟨trivial, ht⟩) (del_asc x ha) (del_wf hw)
    have hct0 : Hid (∀ W c d tl tr, Nod W.heap.size W tl c → Nod W.heap.size W tr d → l = keys tl ++ x :: keys tr → Calls Try.prog 40 #[.pointer c, .pointer d] W fun e w' => (∃ u, e = .returned u ∧ IsG w' u (Has (del x l))) ∧ Below W.heap.size W w') := Lib.hid fun W c d tl tr hl hr he => by
      rw [he] at ha ⊢
      rw [del_mid ha]
      obtain ⟨-, h2, -, -⟩ := asc_node.1 ha
      exact concat_any hl hr h2 (by rw [he] at hbd; simp at hbd; omega)
    obtain ⟨M, hM⟩ : ∃ M, del x l = M := ⟨_, rfl⟩
    rw [hM] at hwr hdone hct0 ⊢
    replace hwr := Lib.hid hwr
    generalize Has M = GT at *
    clear ha hw hM hlen hbd
    go_enter Try.func10, Try.ntmps10
    go_wp2_with (go_at_call 23; (with_reducible refine hcl.mono ?_); clear hcl; rintro e w1 ⟨⟨q, rfl, hF⟩, hb1⟩; replace hA := hA.on hb1; replace hR := hR.on hb1; have K := hb0.trans (hb1.mono hb0.size); clear c0 c1 hb1 hb0 hW0; (obtain ⟨g, rfl⟩ : ∃ g, q = some ⟨g, 0, none⟩ := (by obtain ⟨g, _, _, _, _, _, h, _⟩ := root_near hF hm; exact ⟨g, h⟩)); (obtain ⟨W3, hW3⟩ : ∃ W3, w1.alloc (.cells #[.pointer (some ⟨g, 0, none⟩), .int .i64 N] tyH) = W3 := ⟨_, rfl⟩); have hb3 : Below w1.heap.size w1 W3 := (by rw [← hW3]; exact (Below.refl _ _).alloc (Nat.le_refl _) _); have hS : hp.Blk W3 w1.heap.size tyH [.pointer (some ⟨g, 0, none⟩), .int .i64 N] := (by rw [← hW3]; exact hp.Blk.newAt rfl); have hQ := hF.on hb3; (have hA3 := hA.on hb3); (have hR3 := hR.on hb3); have hB3 := K.trans (hb3.mono K.size); have l1 := hR.lt; rw [← hN] at hQ; (obtain ⟨e0, e1⟩ := hS.cells2); (obtain ⟨r0, r1⟩ := hR3.cells2); have rf0 := hR3.free 0; have rf1 := hR3.free 1; clear hF hA hR hb3)
    obtain ⟨_, m, cg, dg, tl, tr, heg, hvg, hgl, hgr, he⟩ := root_near hQ hm
    cases heg
    have hct := fun W (hW : Below W3.heap.size W3 W) => hct0.out W cg dg tl tr (hgl.grow hW hW.size) (hgr.grow hW hW.size) he
    have g2 := hvg.cell 2
    have g3 := hvg.cell 3
    have hg := hvg.lt
    simp only [List.getElem?_cons_zero, List.getElem?_cons_succ] at g2 g3
    apply rel.region_tail (C := fun w' => Below W3.heap.size W3 w') (X := fun w w' => Below w.heap.size w w') 14 (by kernel_rfl) (by kernel_rfl) (by kernel_rfl) (by kernel_rfl) ((Below.refl W3.heap.size W3).drew)
    (apply rel.walk_val; (focus (intro wq hq hf; go_wp2; refine ⟨hq, Below.refl _ _, ?_, rfl⟩; (show rel.slot _ _ = _; simp only [rel.slot_lit, List.getD_cons_succ, List.getD_cons_zero]; (first | done | exact rfl)))); (simp only [rel.put_lit, List.set_cons_succ, List.set_cons_zero]))
    ((apply rel.walk_val; (focus (intro wq hq hf; (obtain ⟨d0, d1⟩ := ((hS).below hq (hS).lt).cells2); go_wp2; refine ⟨hq, Below.refl _ _, ?_, rfl⟩; (show rel.slot _ _ = _; simp only [rel.slot_lit, List.getD_cons_succ, List.getD_cons_zero]; (first | done | exact rfl)))); (simp only [rel.put_lit, List.set_cons_succ, List.set_cons_zero])))
    (apply rel.walk_val; (focus (intro wq hq hf; go_wp2; refine ⟨hq, Below.refl _ _, ?_, rfl⟩; (show rel.slot _ _ = _; simp only [rel.slot_lit, List.getD_cons_succ, List.getD_cons_zero]; (first | done | exact rfl)))); (simp only [rel.put_lit, List.set_cons_succ, List.set_cons_zero]))
    (apply rel.walk_val; (focus (intro wq hq hf; go_wp2; refine ⟨hq, Below.refl _ _, ?_, rfl⟩; (show rel.slot _ _ = _; simp only [rel.slot_lit, List.getD_cons_succ, List.getD_cons_zero]; (first | done | exact rfl)))); (simp only [rel.put_lit, List.set_cons_succ, List.set_cons_zero]))
    ((apply rel.walk_val; (focus (intro wq hq hf; (have d0 := (hq.cell (p := ⟨g, 2, none⟩) hg).trans g2); go_wp2; refine ⟨hq, Below.refl _ _, ?_, rfl⟩; (show rel.slot _ _ = _; simp only [rel.slot_lit, List.getD_cons_succ, List.getD_cons_zero]; (first | done | exact rfl)))); (simp only [rel.put_lit, List.set_cons_succ, List.set_cons_zero])))
    (apply rel.walk_val; (focus (intro wq hq hf; go_wp2; refine ⟨hq, Below.refl _ _, ?_, rfl⟩; (show rel.slot _ _ = _; simp only [rel.slot_lit, List.getD_cons_succ, List.getD_cons_zero]; (first | done | exact rfl)))); (simp only [rel.put_lit, List.set_cons_succ, List.set_cons_zero]))
    ((apply rel.walk_val; (focus (intro wq hq hf; (obtain ⟨d0, d1⟩ := ((hS).below hq (hS).lt).cells2); go_wp2; refine ⟨hq, Below.refl _ _, ?_, rfl⟩; (show rel.slot _ _ = _; simp only [rel.slot_lit, List.getD_cons_succ, List.getD_cons_zero]; (first | done | exact rfl)))); (simp only [rel.put_lit, List.set_cons_succ, List.set_cons_zero])))
    (apply rel.walk_val; (focus (intro wq hq hf; go_wp2; refine ⟨hq, Below.refl _ _, ?_, rfl⟩; (show rel.slot _ _ = _; simp only [rel.slot_lit, List.getD_cons_succ, List.getD_cons_zero]; (first | done | exact rfl)))); (simp only [rel.put_lit, List.set_cons_succ, List.set_cons_zero]))
    (apply rel.walk_val; (focus (intro wq hq hf; go_wp2; refine ⟨hq, Below.refl _ _, ?_, rfl⟩; (show rel.slot _ _ = _; simp only [rel.slot_lit, List.getD_cons_succ, List.getD_cons_zero]; (first | done | exact rfl)))); (simp only [rel.put_lit, List.set_cons_succ, List.set_cons_zero]))
    ((apply rel.walk_val; (focus (intro wq hq hf; (have d0 := (hq.cell (p := ⟨g, 3, none⟩) hg).trans g3); go_wp2; refine ⟨hq, Below.refl _ _, ?_, rfl⟩; (show rel.slot _ _ = _; simp only [rel.slot_lit, List.getD_cons_succ, List.getD_cons_zero]; (first | done | exact rfl)))); (simp only [rel.put_lit, List.set_cons_succ, List.set_cons_zero])))
    (apply rel.walk_rel (fun u w' => sch.IsG w' u (GT)) ⟨_, rfl⟩ (fun u w1 w2 h1 h2 => h2.on h1); (focus (intro wq hq hf; go_wp2_with (go_at_call 40; with_reducible refine (hct _ hq).mono ?_; rintro e w'' ⟨⟨u, rfl, hu⟩, hb⟩); refine ⟨hq.trans (hb.mono hq.size), hb, ?_, rfl⟩; (show sch.IsG _ (rel.slot _ _) _; simp only [rel.slot_lit, List.getD_cons_succ, List.getD_cons_zero]; exact hu))); (intro u wu _ hu; obtain ⟨pz, t_pz, rfl, -⟩ := hu; (simp only [rel.put_lit, List.set_cons_succ, List.set_cons_zero])))
    (apply rel.walk_val; (focus (intro wq hq hf; go_wp2; refine ⟨hq, Below.refl _ _, ?_, rfl⟩; (show rel.slot _ _ = _; simp only [rel.slot_lit, List.getD_cons_succ, List.getD_cons_zero]; (first | done | exact rfl)))); (simp only [rel.put_lit, List.set_cons_succ, List.set_cons_zero]))
    ((apply rel.walk_val; (focus (intro wq hq hf; (obtain ⟨d0, d1⟩ := ((hA3).below hq (hA3).lt).cells2); go_wp2; refine ⟨hq, Below.refl _ _, ?_, rfl⟩; (show rel.slot _ _ = _; simp only [rel.slot_lit, List.getD_cons_succ, List.getD_cons_zero]; (first | done | exact rfl)))); (simp only [rel.put_lit, List.set_cons_succ, List.set_cons_zero])))
    (apply rel.walk_val; (focus (intro wq hq hf; go_wp2; refine ⟨hq, Below.refl _ _, ?_, rfl⟩; (show rel.slot _ _ = _; simp only [rel.slot_lit, List.getD_cons_succ, List.getD_cons_zero]; (first | done | exact rfl)))); (simp only [rel.put_lit, List.set_cons_succ, List.set_cons_zero]))
    refine rel.walk_nil ?_
    intro w9 K9 hF
    have hu : IsG w9 (.pointer pz) GT := hF _ (List.mem_cons_self ..)
    have hR9 := hR3.on K9
    obtain ⟨d2, d3⟩ := hR9.cells2
    have f2 := hR9.free 0
    have f3 := hR9.free 1
    clear hF r0 r1 rf0 rf1 e0 e1
    simp only [List.drop_succ_cons, List.drop_zero]
    go_wp2_with fail
    rw [hwr.out]
    have hu2 := hdone.out _ _ hu
    obtain ⟨W9, hW9, hS9, hQ9, hB9, -⟩ := stored (k := (M.length : Int)) rfl hR9 (by omega) (hB3.trans (K9.mono hB3.size)) hu2
    rw [hW9]
    obtain ⟨g4, g5⟩ := hS9.cells2
    refine bodyPost_ret (v := rv pz M.length) (by simp [results, Try.results10, go_sem, g4, g5]) rfl ⟨⟨_, rfl, hQ9⟩, hB9⟩

set_option maxHeartbeats 4000000 in
theorem of_any {v : Value} {l : List Int} {w : World} (hv : hp.IsInts w w.heap.size v l) (hbd : l.length ≤ 17592186044416) :
    Calls Try.prog 22 #[v] w fun e w' => (∃ q, e = .returned (rv q (uniq l).length) ∧ IsSet w' w'.heap.size (rv q (uniq l).length) (uniq l)) ∧ Below w.heap.size w w' := by
  have hwf := uniq_wf hv.wf
  have hlu := uniq_le l
  have hau := uniq_asc l
  have hb0 : Below w.heap.size w (w.alloc (.cells #[.pointer none, .int .i64 0] tyH)) := by
    ((repeat' (first | with_reducible exact Below.refl _ _ | with_reducible apply Below.setCell | with_reducible apply below_drewN | with_reducible apply Below.drew | with_reducible apply Below.alloc | with_reducible refine Below.trans ?_ (Below.mono (by assumption) ?_))) <;> (first | (simp; done) | (simp; omega) | omega))
  have hR0 : hp.Blk (w.alloc (.cells #[.pointer none, .int .i64 0] tyH)) w.heap.size tyH [.pointer none, .int .i64 0] := hp.Blk.newAt rfl
  have hdi := distinct_any (hv.on hb0) hbd
  have hof := fun W u (hu : hp.IsInts W W.heap.size u (uniq l)) => of_tree _ (uniq l) u W (Nat.le_refl _) (by omega) hu
  obtain ⟨U, hU⟩ : ∃ U, uniq l = U := ⟨_, rfl⟩
  rw [hU] at hwf hlu hau hdi hof ⊢
  obtain ⟨ad, cap, rfl, -⟩ := hv
  replace hwf := Lib.hid hwf
  replace hlu := Lib.hid hlu
  clear hU
  go_enter Try.func22, Try.ntmps22
  go_wp2_with (first
    | (go_at_call 49; (with_reducible refine hdi.mono ?_); clear hdi; rintro e w1 ⟨⟨u, rfl, hu⟩, hb1⟩; have hR := hR0.on hb1; have hb2 := hb0.trans (hb1.mono hb0.size); clear hb1 hR0 hb0; have hu1 := hu; obtain ⟨a1, c1, rfl, -⟩ := hu1)
    | (go_at_call 50; (with_reducible refine (hof _ _ hu).mono ?_); clear hof hu; rintro e w2 ⟨⟨u2, rfl, hu2⟩, hb3⟩; replace hR := hR.on hb3; replace hb2 := hb2.trans (hb3.mono hb2.size); clear hb3; have hu3 := hu2; obtain ⟨p, t, rfl, -⟩ := hu3; obtain ⟨d0, d1⟩ := hR.cells2; have f0 := hR.free 0; have f1 := hR.free 1))
  have hs : IsSet w2 w2.heap.size (rv p U.length) U := by
    exact isSet_of hu2 (fun t ht => ⟨trivial, ht⟩) hau hwf.out
  obtain ⟨W9, hW9, hS, hQ, hB, -⟩ := stored (k := (U.length : Int)) rfl hR (Nat.le_refl _) hb2 hs
  rw [hW9]
  obtain ⟨g0, g1⟩ := hS.cells2
  refine bodyPost_ret (v := rv p U.length) (by simp [results, Try.results22, go_sem, g0, g1]) rfl ⟨⟨_, rfl, hQ⟩, hB⟩
end Go.Proofs.Ytlaflhnnddfkkaa.spl
