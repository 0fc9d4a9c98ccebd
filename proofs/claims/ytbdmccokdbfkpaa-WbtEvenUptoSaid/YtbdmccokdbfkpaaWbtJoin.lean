/- Package wbt: Split, Join. -/
import Derived.Test.YtbdmccokdbfkpaaWbtRank
namespace Go.Proofs.Ytbdmccokdbfkpaa.wbt
open Go Go.RowKit
open Go.Proofs.Ytbdmccokdbfkpaa.sch

theorem split_good {x : Int} {L : List Int} {p : Option Addr} {w : World} (h : IsG w (.pointer p) (Good L)) (ha : Asc L) (hs : L.length < 576460752303423400) :
    Calls Try.prog 47 #[.pointer p, .int .i64 x] w fun e w' => (∃ u, e = .returned u ∧ IsS w' u (lo x L) (decide (x ∈ L)) (hi x L)) ∧ Below w.heap.size w w' := by
  obtain ⟨_, t, he, hn, gt⟩ := h
  cases he
  have h1 := gt.siz
  obtain ⟨it, hk⟩ := gt
  have := split_any (x := x) t _ w _ rfl hn it (by rw [hk]; exact ha) (by rw [h1]; omega)
  rw [hk] at this
  exact this

set_option maxHeartbeats 8000000 in
theorem set_split {v : Value} {l : List Int} {x : Int} {w : World} (hv : IsSet w w.heap.size v l) (hbd : l.length < 576460752303423400) :
    Calls Try.prog 25 #[v, .int .i64 x] w fun e w' => (∃ q r, e = .returned (.tuple #[rv q, .bool (decide (x ∈ l)), rv r]) ∧ IsSet w' w'.heap.size (rv q) (lo x l) ∧ IsSet w' w'.heap.size (rv r) (hi x l)) ∧ Below w.heap.size w w' := by
  obtain ⟨p, rfl⟩ := hv.val
  have hw := hv.wf
  have ha := hv.asc
  have hg := hv.good
  obtain ⟨Wa, hW0⟩ : ∃ Wa, (((w.alloc (.cells #[.pointer p] tyH)).alloc (.cells #[.pointer none] tyH)).alloc (.cells #[.pointer none] tyH)) = Wa := ⟨_, rfl⟩
  have hR : hp.Blk Wa (w.heap.size + 2) tyH [.pointer none] := by
    rw [← hW0]
    exact hp.Blk.newAt (by simp)
  have hB2 : hp.Blk Wa (w.heap.size + 1) tyH [.pointer none] := by
    rw [← hW0]
    exact (hp.Blk.newAt (by simp)).alloc _
  have hA : hp.Blk Wa w.heap.size tyH [.pointer p] := by
    rw [← hW0]
    exact ((hp.Blk.newAt (by simp)).alloc _).alloc _
  have hb0 : Below w.heap.size w Wa := by
    rw [← hW0]
    ((repeat' (first | with_reducible exact Below.refl _ _ | with_reducible apply Below.setCell | with_reducible apply below_drewN | with_reducible apply Below.drew | with_reducible apply Below.alloc | with_reducible refine Below.trans ?_ (Below.mono (by assumption) ?_))) <;> (first | (simp; done) | (simp; omega) | omega))
  have hcl := fun W (hW : Below w.heap.size w W) => split_good (x := x) (hg.on hW) ha hbd
  have hd1 : Hid (∀ W q, IsG W (.pointer q) (Good (lo x l)) → IsSet W W.heap.size (rv q) (lo x l)) := Lib.hid fun W q h => isSet_of h (lo_asc x ha) fun z hz => hw z (mem_lo.1 hz).1
  have hd2 : Hid (∀ W q, IsG W (.pointer q) (Good (hi x l)) → IsSet W W.heap.size (rv q) (hi x l)) := Lib.hid fun W q h => isSet_of h (hi_asc x ha) fun z hz => hw z (mem_hi.1 hz).1
  have c0 := hA.cell 0
  have e0 := hB2.cell 0
  have d0 := hR.cell 0
  have l0 := hA.lt
  have l1 := hR.lt
  have l2 := hB2.lt
  have f0 := hR.free 0
  have f1 := hB2.free 0
  simp only [List.getElem?_cons_zero] at c0 d0 e0
  clear hv hw hg hbd ha
  generalize decide (x ∈ l) = f at *
  generalize lo x l = L1 at *
  generalize hi x l = L2 at *
  go_enter Try.func25, Try.ntmps25
  go_wp2_with (go_at_call 47; (with_reducible refine (hcl _ hb0).mono ?_); clear hcl; (rintro e W2 ⟨⟨u, rfl, q1, r1, rfl, hq1, hr1⟩, hb1⟩); replace hR := hR.on hb1; replace hB2 := hB2.on hb1; have K := hb0.trans (hb1.mono hb0.size); clear c0 d0 e0 f0 f1 l0 l1 l2 hb1 hA; have d0 := hR.cell 0; have e0 := hB2.cell 0; have f0 := hR.free 0; have f1 := hB2.free 0; have l1 := hR.lt; have l2 := hB2.lt; simp only [List.getElem?_cons_zero] at d0 e0)
  obtain ⟨W8, hW8, hS8, hQ8, hB8, hK8, hz8, ho8⟩ := stored hB2 (by omega) K (hd1.out _ _ hq1)
  rw [hW8]
  obtain ⟨W9, hW9, hS, hQ, hB, hK9, hz9, ho9⟩ := stored (ho8 _ _ _ (by omega) hR) (by omega) hB8 (p := r1) (((hd2.out _ _ hr1).keep hK8).mono (by omega))
  rw [hW9]
  have g1 := (ho9 _ _ _ (by omega) hS8).cell 0
  have g0 := hS.cell 0
  simp only [List.getElem?_cons_zero] at g0 g1
  refine bodyPost_ret (v := .tuple #[rv q1, .bool f, rv r1]) (by simp [results, Try.results25, go_sem, g0, g1]) rfl ⟨⟨_, _, rfl, ?_, hQ⟩, hB⟩
  exact (hQ8.keep hK9).mono (by omega)

/-- the last one, the first one -/
theorem at_last : ∀ {l : List Int}, Asc l → l ≠ [] → ∃ y, at_ l ((l.length : Int) - 1) = (y, true) ∧ y ∈ l ∧ ∀ z ∈ l, z ≤ y := by
  intro l ha hl
  obtain ⟨t, y, rfl⟩ : ∃ t y, l = t ++ [y] := by
    rcases List.eq_nil_or_concat l with h | ⟨t, y, h⟩
    · exact absurd h hl
    · exact ⟨t, y, by simpa using h⟩
  refine ⟨y, ?_, by simp, fun z hz => ?_⟩
  · have := at_mid y t []
    rw [show ((t ++ [y]).length : Int) - 1 = (t.length : Int) by simp]
    exact this
  · rcases List.mem_append.1 hz with h | h
    · have := (asc_node.1 ha).2.2.1 z h; omega
    · simp at h; omega
theorem at_first {z : Int} {tl : List Int} (ha : Asc (z :: tl)) : at_ (z :: tl) 0 = (z, true) ∧ ∀ y ∈ z :: tl, z ≤ y := by
  refine ⟨by unfold at_; rw [if_pos ⟨by omega, by rw [List.length_cons]; omega⟩]; rfl, fun y hy => ?_⟩
  rcases List.mem_cons.1 hy with rfl | hy
  · exact Int.le_refl _
  · have := (List.pairwise_cons.1 ha).1 y hy; omega
theorem uni_app {l m : List Int} (hl : Asc l) (hm : Asc m) (h : ∀ x ∈ l, ∀ y ∈ m, x < y) : l ++ m = uni l m :=
  uni_of (List.pairwise_append.2 ⟨hl, hm, h⟩) fun z => List.mem_append

set_option maxHeartbeats 8000000 in
theorem join_nil {v u : Value} {l m : List Int} {w : World} {y z : Int} {f2 : Bool} (hv : IsSet w w.heap.size v l) (hu : IsSet w w.heap.size u m) (hbd : l.length + m.length < 576460752303423400) (h1 : at_ l ((l.length : Int) - 1) = (y, false)) (h2 : at_ m 0 = (z, f2)) (hT : l ++ m = uni l m) :
    Calls Try.prog 29 #[v, u] w fun e w' => (∃ q, e = .returned (rv q) ∧ IsSet w' w'.heap.size (rv q) (uni l m)) ∧ Below w.heap.size w w' := by
  have hl1 := fun W (hW : Below w.heap.size w W) => len_any v l W (hv.on hW)
  have ha1 := fun W (hW : Below w.heap.size w W) => at_any (hv.on hW) (by omega) (by omega) h1
  have ha2 := fun W (hW : Below w.heap.size w W) => at_any (hu.on hW) (by omega) (by omega) h2
  have hcl := fun W p q (hW : Below w.heap.size w W) (hp : IsG W (.pointer p) (Good l)) (hq : IsG W (.pointer q) (Good m)) => concat_good hp hq hu.asc hT (by omega)
  have hgl := fun W p (hW : Below w.heap.size w W) (e : v = rv p) => (e ▸ hv.on hW : IsSet W W.heap.size (rv p) l).good
  have hgm := fun W q (hW : Below w.heap.size w W) (e : u = rv q) => (e ▸ hu.on hW : IsSet W W.heap.size (rv q) m).good
  have hdone : Hid (∀ W q, IsG W (.pointer q) (Good (uni l m)) → IsSet W W.heap.size (rv q) (uni l m)) := Lib.hid fun W q h => isSet_of h (uni_asc _ _) (fun z hz => (mem_uni.1 hz).elim (hv.wf z) (hu.wf z))
  obtain ⟨p, rfl⟩ := hv.val
  obtain ⟨q, rfl⟩ := hu.val
  obtain ⟨Wa, hW0⟩ : ∃ Wa, (((w.alloc (.cells #[.pointer p] tyH)).alloc (.cells #[.pointer q] tyH)).alloc (.cells #[.pointer none] tyH)) = Wa := ⟨_, rfl⟩
  have hR : hp.Blk Wa (w.heap.size + 2) tyH [.pointer none] := by
    rw [← hW0]
    exact hp.Blk.newAt (by simp)
  have hB2 : hp.Blk Wa (w.heap.size + 1) tyH [.pointer q] := by
    rw [← hW0]
    exact (hp.Blk.newAt (by simp)).alloc _
  have hA : hp.Blk Wa w.heap.size tyH [.pointer p] := by
    rw [← hW0]
    exact ((hp.Blk.newAt (by simp)).alloc _).alloc _
  have hb0 : Below w.heap.size w Wa := by
    rw [← hW0]
    ((repeat' (first | with_reducible exact Below.refl _ _ | with_reducible apply Below.setCell | with_reducible apply below_drewN | with_reducible apply Below.drew | with_reducible apply Below.alloc | with_reducible refine Below.trans ?_ (Below.mono (by assumption) ?_))) <;> (first | (simp; done) | (simp; omega) | omega))
  obtain ⟨N, hN⟩ : ∃ N, l.length = N := ⟨_, rfl⟩
  rw [hN] at hl1 ha1
  have hN2 : N < 576460752303423400 := by omega
  generalize uni l m = M at *
  clear hv hu hbd h1 h2 hN hT
  go_enter Try.func29, Try.ntmps29
  go_wp2_with fail
  clear hW0
  apply rel.region (C := fun w' => Below Wa.heap.size Wa w') (X := fun w w' => Below w.heap.size w w') (by kernel_rfl) (by kernel_rfl) (by kernel_rfl) ((Below.refl _ _).drew)
  ((apply rel.walk_val; (focus (intro wq hq hf; (have d0 := (((hA).below hq (hA).lt)).cell 0; simp only [List.getElem?_cons_zero] at d0); go_wp2; refine ⟨hq, Below.refl _ _, ?_, rfl⟩; (show rel.slot _ _ = _; simp only [rel.slot_lit, List.getD_cons_succ, List.getD_cons_zero]; (first | done | exact rfl)))); (simp only [rel.put_lit, List.set_cons_succ, List.set_cons_zero])))
  ((apply rel.walk_val; (focus (intro wq hq hf; (have d0 := (((hA).below hq (hA).lt)).cell 0; simp only [List.getElem?_cons_zero] at d0); go_wp2; refine ⟨hq, Below.refl _ _, ?_, rfl⟩; (show rel.slot _ _ = _; simp only [rel.slot_lit, List.getD_cons_succ, List.getD_cons_zero]; (first | done | exact rfl)))); (simp only [rel.put_lit, List.set_cons_succ, List.set_cons_zero])))
  (apply rel.walk_val; (focus (intro wq hq hf; go_wp2_with (go_at_call 19; refine (hl1 _ (hb0.trans (hq.mono hb0.size))).mono ?_; rintro e w'' ⟨rfl, hb⟩); refine ⟨hq.trans (hb.mono hq.size), hb, ?_, rfl⟩; (show rel.slot _ _ = _; simp only [rel.slot_lit, List.getD_cons_succ, List.getD_cons_zero]; (first | done | exact rfl)))); (simp only [rel.put_lit, List.set_cons_succ, List.set_cons_zero]))
  (apply rel.walk_val; (focus (intro wq hq hf; go_wp2; refine ⟨hq, Below.refl _ _, ?_, rfl⟩; (show rel.slot _ _ = _; simp only [rel.slot_lit, List.getD_cons_succ, List.getD_cons_zero]; (first | done | exact rfl)))); (simp only [rel.put_lit, List.set_cons_succ, List.set_cons_zero]))
  (apply rel.walk_val; (focus (intro wq hq hf; go_wp2_with (go_at_call 33; refine (ha1 _ (hb0.trans (hq.mono hb0.size))).mono ?_; rintro e w'' ⟨rfl, hb⟩); refine ⟨hq.trans (hb.mono hq.size), hb, ?_, rfl⟩; (show rel.slot _ _ = _; simp only [rel.slot_lit, List.getD_cons_succ, List.getD_cons_zero]; (first | done | exact rfl)))); (simp only [rel.put_lit, List.set_cons_succ, List.set_cons_zero]))
  (apply rel.walk_val; (focus (intro wq hq hf; go_wp2; refine ⟨hq, Below.refl _ _, ?_, rfl⟩; (show rel.slot _ _ = _; simp only [rel.slot_lit, List.getD_cons_succ, List.getD_cons_zero]; (first | done | exact rfl)))); (simp only [rel.put_lit, List.set_cons_succ, List.set_cons_zero]))
  (apply rel.walk_val; (focus (intro wq hq hf; go_wp2; refine ⟨hq, Below.refl _ _, ?_, rfl⟩; (show rel.slot _ _ = _; simp only [rel.slot_lit, List.getD_cons_succ, List.getD_cons_zero]; (first | done | exact rfl)))); (simp only [rel.put_lit, List.set_cons_succ, List.set_cons_zero]))
  (apply rel.walk_val; (focus (intro wq hq hf; go_wp2; refine ⟨hq, Below.refl _ _, ?_, rfl⟩; (show rel.slot _ _ = _; simp only [rel.slot_lit, List.getD_cons_succ, List.getD_cons_zero]; (first | done | exact rfl)))); (simp only [rel.put_lit, List.set_cons_succ, List.set_cons_zero]))
  (apply rel.walk_val; (focus (intro wq hq hf; go_wp2; refine ⟨hq, Below.refl _ _, ?_, rfl⟩; (show rel.slot _ _ = _; simp only [rel.slot_lit, List.getD_cons_succ, List.getD_cons_zero]; (first | done | exact rfl)))); (simp only [rel.put_lit, List.set_cons_succ, List.set_cons_zero]))
  (apply rel.walk_val; (focus (intro wq hq hf; go_wp2; refine ⟨hq, Below.refl _ _, ?_, rfl⟩; (show rel.slot _ _ = _; simp only [rel.slot_lit, List.getD_cons_succ, List.getD_cons_zero]; (first | done | exact rfl)))); (simp only [rel.put_lit, List.set_cons_succ, List.set_cons_zero]))
  refine rel.walk_nil ?_
  intro W1 K1 hF
  clear hF hl1 ha1
  have K := hb0.trans (K1.mono hb0.size)
  replace hA := hA.on K1
  replace hB2 := hB2.on K1
  replace hR := hR.on K1
  clear K1 hb0
  have c0 := hA.cell 0
  have e0 := hB2.cell 0
  have d0 := hR.cell 0
  have l0 := hA.lt
  have l1 := hR.lt
  have l2 := hB2.lt
  have f0 := hR.free 0
  simp only [List.getElem?_cons_zero] at c0 d0 e0
  go_wp2_with (first
    | (go_at_call 33; (with_reducible refine (ha2 _ K).mono ?_); clear ha2; rintro e W2 ⟨rfl, hb1⟩; replace hA := hA.on hb1; replace hB2 := hB2.on hb1; replace hR := hR.on hb1; replace K := K.trans (hb1.mono K.size); clear c0 d0 e0 f0 l0 l1 l2 hb1; have c0 := hA.cell 0; have e0 := hB2.cell 0; have d0 := hR.cell 0; have l0 := hA.lt; have l1 := hR.lt; have l2 := hB2.lt; have f0 := hR.free 0; simp only [List.getElem?_cons_zero] at c0 d0 e0)
    | (go_at_call 50; (with_reducible refine (hcl _ _ _ K (hgl _ _ K rfl) (hgm _ _ K rfl)).mono ?_); clear hcl hgl hgm; rintro e W3 ⟨⟨u, rfl, hu⟩, hb1⟩; replace hR := hR.on hb1; replace K := K.trans (hb1.mono K.size); clear c0 d0 e0 f0 l0 l1 l2 hb1 hA hB2; have d0 := hR.cell 0; have f0 := hR.free 0; have l1 := hR.lt; simp only [List.getElem?_cons_zero] at d0; have hu2 := hu; obtain ⟨pz, t_z, rfl, -⟩ := hu2))
  obtain ⟨W9, hW9, hS, hQ, hB, -⟩ := stored hR (by omega) K (hdone.out _ _ hu)
  rw [hW9]
  have g0 := hS.cell 0
  simp only [List.getElem?_cons_zero] at g0
  refine bodyPost_ret (v := rv pz) (by simp [results, Try.results29, go_sem, g0]) rfl ⟨⟨_, rfl, hQ⟩, hB⟩

set_option maxHeartbeats 8000000 in
theorem join_one {v u : Value} {l m : List Int} {w : World} {y z : Int} (hv : IsSet w w.heap.size v l) (hu : IsSet w w.heap.size u m) (hbd : l.length + m.length < 576460752303423400) (h1 : at_ l ((l.length : Int) - 1) = (y, true)) (h2 : at_ m 0 = (z, false)) (hT : l ++ m = uni l m) :
    Calls Try.prog 29 #[v, u] w fun e w' => (∃ q, e = .returned (rv q) ∧ IsSet w' w'.heap.size (rv q) (uni l m)) ∧ Below w.heap.size w w' := by
  have hl1 := fun W (hW : Below w.heap.size w W) => len_any v l W (hv.on hW)
  have ha1 := fun W (hW : Below w.heap.size w W) => at_any (hv.on hW) (by omega) (by omega) h1
  have ha2 := fun W (hW : Below w.heap.size w W) => at_any (hu.on hW) (by omega) (by omega) h2
  have hcl := fun W p q (hW : Below w.heap.size w W) (hp : IsG W (.pointer p) (Good l)) (hq : IsG W (.pointer q) (Good m)) => concat_good hp hq hu.asc hT (by omega)
  have hgl := fun W p (hW : Below w.heap.size w W) (e : v = rv p) => (e ▸ hv.on hW : IsSet W W.heap.size (rv p) l).good
  have hgm := fun W q (hW : Below w.heap.size w W) (e : u = rv q) => (e ▸ hu.on hW : IsSet W W.heap.size (rv q) m).good
  have hdone : Hid (∀ W q, IsG W (.pointer q) (Good (uni l m)) → IsSet W W.heap.size (rv q) (uni l m)) := Lib.hid fun W q h => isSet_of h (uni_asc _ _) (fun z hz => (mem_uni.1 hz).elim (hv.wf z) (hu.wf z))
  obtain ⟨p, rfl⟩ := hv.val
  obtain ⟨q, rfl⟩ := hu.val
  obtain ⟨Wa, hW0⟩ : ∃ Wa, (((w.alloc (.cells #[.pointer p] tyH)).alloc (.cells #[.pointer q] tyH)).alloc (.cells #[.pointer none] tyH)) = Wa := ⟨_, rfl⟩
  have hR : hp.Blk Wa (w.heap.size + 2) tyH [.pointer none] := by
    rw [← hW0]
    exact hp.Blk.newAt (by simp)
  have hB2 : hp.Blk Wa (w.heap.size + 1) tyH [.pointer q] := by
    rw [← hW0]
    exact (hp.Blk.newAt (by simp)).alloc _
  have hA : hp.Blk Wa w.heap.size tyH [.pointer p] := by
    rw [← hW0]
    exact ((hp.Blk.newAt (by simp)).alloc _).alloc _
  have hb0 : Below w.heap.size w Wa := by
    rw [← hW0]
    ((repeat' (first | with_reducible exact Below.refl _ _ | with_reducible apply Below.setCell | with_reducible apply below_drewN | with_reducible apply Below.drew | with_reducible apply Below.alloc | with_reducible refine Below.trans ?_ (Below.mono (by assumption) ?_))) <;> (first | (simp; done) | (simp; omega) | omega))
  obtain ⟨N, hN⟩ : ∃ N, l.length = N := ⟨_, rfl⟩
  rw [hN] at hl1 ha1
  have hN2 : N < 576460752303423400 := by omega
  generalize uni l m = M at *
  clear hv hu hbd h1 h2 hN hT
  go_enter Try.func29, Try.ntmps29
  go_wp2_with fail
  clear hW0
  apply rel.region (C := fun w' => Below Wa.heap.size Wa w') (X := fun w w' => Below w.heap.size w w') (by kernel_rfl) (by kernel_rfl) (by kernel_rfl) ((Below.refl _ _).drew)
  ((apply rel.walk_val; (focus (intro wq hq hf; (have d0 := (((hA).below hq (hA).lt)).cell 0; simp only [List.getElem?_cons_zero] at d0); go_wp2; refine ⟨hq, Below.refl _ _, ?_, rfl⟩; (show rel.slot _ _ = _; simp only [rel.slot_lit, List.getD_cons_succ, List.getD_cons_zero]; (first | done | exact rfl)))); (simp only [rel.put_lit, List.set_cons_succ, List.set_cons_zero])))
  ((apply rel.walk_val; (focus (intro wq hq hf; (have d0 := (((hA).below hq (hA).lt)).cell 0; simp only [List.getElem?_cons_zero] at d0); go_wp2; refine ⟨hq, Below.refl _ _, ?_, rfl⟩; (show rel.slot _ _ = _; simp only [rel.slot_lit, List.getD_cons_succ, List.getD_cons_zero]; (first | done | exact rfl)))); (simp only [rel.put_lit, List.set_cons_succ, List.set_cons_zero])))
  (apply rel.walk_val; (focus (intro wq hq hf; go_wp2_with (go_at_call 19; refine (hl1 _ (hb0.trans (hq.mono hb0.size))).mono ?_; rintro e w'' ⟨rfl, hb⟩); refine ⟨hq.trans (hb.mono hq.size), hb, ?_, rfl⟩; (show rel.slot _ _ = _; simp only [rel.slot_lit, List.getD_cons_succ, List.getD_cons_zero]; (first | done | exact rfl)))); (simp only [rel.put_lit, List.set_cons_succ, List.set_cons_zero]))
  (apply rel.walk_val; (focus (intro wq hq hf; go_wp2; refine ⟨hq, Below.refl _ _, ?_, rfl⟩; (show rel.slot _ _ = _; simp only [rel.slot_lit, List.getD_cons_succ, List.getD_cons_zero]; (first | done | exact rfl)))); (simp only [rel.put_lit, List.set_cons_succ, List.set_cons_zero]))
  (apply rel.walk_val; (focus (intro wq hq hf; go_wp2_with (go_at_call 33; refine (ha1 _ (hb0.trans (hq.mono hb0.size))).mono ?_; rintro e w'' ⟨rfl, hb⟩); refine ⟨hq.trans (hb.mono hq.size), hb, ?_, rfl⟩; (show rel.slot _ _ = _; simp only [rel.slot_lit, List.getD_cons_succ, List.getD_cons_zero]; (first | done | exact rfl)))); (simp only [rel.put_lit, List.set_cons_succ, List.set_cons_zero]))
  (apply rel.walk_val; (focus (intro wq hq hf; go_wp2; refine ⟨hq, Below.refl _ _, ?_, rfl⟩; (show rel.slot _ _ = _; simp only [rel.slot_lit, List.getD_cons_succ, List.getD_cons_zero]; (first | done | exact rfl)))); (simp only [rel.put_lit, List.set_cons_succ, List.set_cons_zero]))
  (apply rel.walk_val; (focus (intro wq hq hf; go_wp2; refine ⟨hq, Below.refl _ _, ?_, rfl⟩; (show rel.slot _ _ = _; simp only [rel.slot_lit, List.getD_cons_succ, List.getD_cons_zero]; (first | done | exact rfl)))); (simp only [rel.put_lit, List.set_cons_succ, List.set_cons_zero]))
  (apply rel.walk_val; (focus (intro wq hq hf; go_wp2; refine ⟨hq, Below.refl _ _, ?_, rfl⟩; (show rel.slot _ _ = _; simp only [rel.slot_lit, List.getD_cons_succ, List.getD_cons_zero]; (first | done | exact rfl)))); (simp only [rel.put_lit, List.set_cons_succ, List.set_cons_zero]))
  (apply rel.walk_val; (focus (intro wq hq hf; go_wp2; refine ⟨hq, Below.refl _ _, ?_, rfl⟩; (show rel.slot _ _ = _; simp only [rel.slot_lit, List.getD_cons_succ, List.getD_cons_zero]; (first | done | exact rfl)))); (simp only [rel.put_lit, List.set_cons_succ, List.set_cons_zero]))
  (apply rel.walk_val; (focus (intro wq hq hf; go_wp2; refine ⟨hq, Below.refl _ _, ?_, rfl⟩; (show rel.slot _ _ = _; simp only [rel.slot_lit, List.getD_cons_succ, List.getD_cons_zero]; (first | done | exact rfl)))); (simp only [rel.put_lit, List.set_cons_succ, List.set_cons_zero]))
  refine rel.walk_nil ?_
  intro W1 K1 hF
  clear hF hl1 ha1
  have K := hb0.trans (K1.mono hb0.size)
  replace hA := hA.on K1
  replace hB2 := hB2.on K1
  replace hR := hR.on K1
  clear K1 hb0
  have c0 := hA.cell 0
  have e0 := hB2.cell 0
  have d0 := hR.cell 0
  have l0 := hA.lt
  have l1 := hR.lt
  have l2 := hB2.lt
  have f0 := hR.free 0
  simp only [List.getElem?_cons_zero] at c0 d0 e0
  go_wp2_with (first
    | (go_at_call 33; (with_reducible refine (ha2 _ K).mono ?_); clear ha2; rintro e W2 ⟨rfl, hb1⟩; replace hA := hA.on hb1; replace hB2 := hB2.on hb1; replace hR := hR.on hb1; replace K := K.trans (hb1.mono K.size); clear c0 d0 e0 f0 l0 l1 l2 hb1; have c0 := hA.cell 0; have e0 := hB2.cell 0; have d0 := hR.cell 0; have l0 := hA.lt; have l1 := hR.lt; have l2 := hB2.lt; have f0 := hR.free 0; simp only [List.getElem?_cons_zero] at c0 d0 e0)
    | (go_at_call 50; (with_reducible refine (hcl _ _ _ K (hgl _ _ K rfl) (hgm _ _ K rfl)).mono ?_); clear hcl hgl hgm; rintro e W3 ⟨⟨u, rfl, hu⟩, hb1⟩; replace hR := hR.on hb1; replace K := K.trans (hb1.mono K.size); clear c0 d0 e0 f0 l0 l1 l2 hb1 hA hB2; have d0 := hR.cell 0; have f0 := hR.free 0; have l1 := hR.lt; simp only [List.getElem?_cons_zero] at d0; have hu2 := hu; obtain ⟨pz, t_z, rfl, -⟩ := hu2))
  obtain ⟨W9, hW9, hS, hQ, hB, -⟩ := stored hR (by omega) K (hdone.out _ _ hu)
  rw [hW9]
  have g0 := hS.cell 0
  simp only [List.getElem?_cons_zero] at g0
  refine bodyPost_ret (v := rv pz) (by simp [results, Try.results29, go_sem, g0]) rfl ⟨⟨_, rfl, hQ⟩, hB⟩

set_option maxHeartbeats 8000000 in
theorem join_app {v u : Value} {l m : List Int} {w : World} {y z : Int} (hv : IsSet w w.heap.size v l) (hu : IsSet w w.heap.size u m) (hbd : l.length + m.length < 576460752303423400) (h1 : at_ l ((l.length : Int) - 1) = (y, true)) (h2 : at_ m 0 = (z, true)) (hT : l ++ m = uni l m) (hlt : ¬ z ≤ y) :
    Calls Try.prog 29 #[v, u] w fun e w' => (∃ q, e = .returned (rv q) ∧ IsSet w' w'.heap.size (rv q) (uni l m)) ∧ Below w.heap.size w w' := by
  have hl1 := fun W (hW : Below w.heap.size w W) => len_any v l W (hv.on hW)
  have ha1 := fun W (hW : Below w.heap.size w W) => at_any (hv.on hW) (by omega) (by omega) h1
  have ha2 := fun W (hW : Below w.heap.size w W) => at_any (hu.on hW) (by omega) (by omega) h2
  have hcl := fun W p q (hW : Below w.heap.size w W) (hp : IsG W (.pointer p) (Good l)) (hq : IsG W (.pointer q) (Good m)) => concat_good hp hq hu.asc hT (by omega)
  have hgl := fun W p (hW : Below w.heap.size w W) (e : v = rv p) => (e ▸ hv.on hW : IsSet W W.heap.size (rv p) l).good
  have hgm := fun W q (hW : Below w.heap.size w W) (e : u = rv q) => (e ▸ hu.on hW : IsSet W W.heap.size (rv q) m).good
  have hdone : Hid (∀ W q, IsG W (.pointer q) (Good (uni l m)) → IsSet W W.heap.size (rv q) (uni l m)) := Lib.hid fun W q h => isSet_of h (uni_asc _ _) (fun z hz => (mem_uni.1 hz).elim (hv.wf z) (hu.wf z))
  obtain ⟨p, rfl⟩ := hv.val
  obtain ⟨q, rfl⟩ := hu.val
  obtain ⟨Wa, hW0⟩ : ∃ Wa, (((w.alloc (.cells #[.pointer p] tyH)).alloc (.cells #[.pointer q] tyH)).alloc (.cells #[.pointer none] tyH)) = Wa := ⟨_, rfl⟩
  have hR : hp.Blk Wa (w.heap.size + 2) tyH [.pointer none] := by
    rw [← hW0]
    exact hp.Blk.newAt (by simp)
  have hB2 : hp.Blk Wa (w.heap.size + 1) tyH [.pointer q] := by
    rw [← hW0]
    exact (hp.Blk.newAt (by simp)).alloc _
  have hA : hp.Blk Wa w.heap.size tyH [.pointer p] := by
    rw [← hW0]
    exact ((hp.Blk.newAt (by simp)).alloc _).alloc _
  have hb0 : Below w.heap.size w Wa := by
    rw [← hW0]
    ((repeat' (first | with_reducible exact Below.refl _ _ | with_reducible apply Below.setCell | with_reducible apply below_drewN | with_reducible apply Below.drew | with_reducible apply Below.alloc | with_reducible refine Below.trans ?_ (Below.mono (by assumption) ?_))) <;> (first | (simp; done) | (simp; omega) | omega))
  obtain ⟨N, hN⟩ : ∃ N, l.length = N := ⟨_, rfl⟩
  rw [hN] at hl1 ha1
  have hN2 : N < 576460752303423400 := by omega
  generalize uni l m = M at *
  clear hv hu hbd h1 h2 hN hT
  go_enter Try.func29, Try.ntmps29
  go_wp2_with fail
  clear hW0
  apply rel.region (C := fun w' => Below Wa.heap.size Wa w') (X := fun w w' => Below w.heap.size w w') (by kernel_rfl) (by kernel_rfl) (by kernel_rfl) ((Below.refl _ _).drew)
  ((apply rel.walk_val; (focus (intro wq hq hf; (have d0 := (((hA).below hq (hA).lt)).cell 0; simp only [List.getElem?_cons_zero] at d0); go_wp2; refine ⟨hq, Below.refl _ _, ?_, rfl⟩; (show rel.slot _ _ = _; simp only [rel.slot_lit, List.getD_cons_succ, List.getD_cons_zero]; (first | done | exact rfl)))); (simp only [rel.put_lit, List.set_cons_succ, List.set_cons_zero])))
  ((apply rel.walk_val; (focus (intro wq hq hf; (have d0 := (((hA).below hq (hA).lt)).cell 0; simp only [List.getElem?_cons_zero] at d0); go_wp2; refine ⟨hq, Below.refl _ _, ?_, rfl⟩; (show rel.slot _ _ = _; simp only [rel.slot_lit, List.getD_cons_succ, List.getD_cons_zero]; (first | done | exact rfl)))); (simp only [rel.put_lit, List.set_cons_succ, List.set_cons_zero])))
  (apply rel.walk_val; (focus (intro wq hq hf; go_wp2_with (go_at_call 19; refine (hl1 _ (hb0.trans (hq.mono hb0.size))).mono ?_; rintro e w'' ⟨rfl, hb⟩); refine ⟨hq.trans (hb.mono hq.size), hb, ?_, rfl⟩; (show rel.slot _ _ = _; simp only [rel.slot_lit, List.getD_cons_succ, List.getD_cons_zero]; (first | done | exact rfl)))); (simp only [rel.put_lit, List.set_cons_succ, List.set_cons_zero]))
  (apply rel.walk_val; (focus (intro wq hq hf; go_wp2; refine ⟨hq, Below.refl _ _, ?_, rfl⟩; (show rel.slot _ _ = _; simp only [rel.slot_lit, List.getD_cons_succ, List.getD_cons_zero]; (first | done | exact rfl)))); (simp only [rel.put_lit, List.set_cons_succ, List.set_cons_zero]))
  (apply rel.walk_val; (focus (intro wq hq hf; go_wp2_with (go_at_call 33; refine (ha1 _ (hb0.trans (hq.mono hb0.size))).mono ?_; rintro e w'' ⟨rfl, hb⟩); refine ⟨hq.trans (hb.mono hq.size), hb, ?_, rfl⟩; (show rel.slot _ _ = _; simp only [rel.slot_lit, List.getD_cons_succ, List.getD_cons_zero]; (first | done | exact rfl)))); (simp only [rel.put_lit, List.set_cons_succ, List.set_cons_zero]))
  (apply rel.walk_val; (focus (intro wq hq hf; go_wp2; refine ⟨hq, Below.refl _ _, ?_, rfl⟩; (show rel.slot _ _ = _; simp only [rel.slot_lit, List.getD_cons_succ, List.getD_cons_zero]; (first | done | exact rfl)))); (simp only [rel.put_lit, List.set_cons_succ, List.set_cons_zero]))
  (apply rel.walk_val; (focus (intro wq hq hf; go_wp2; refine ⟨hq, Below.refl _ _, ?_, rfl⟩; (show rel.slot _ _ = _; simp only [rel.slot_lit, List.getD_cons_succ, List.getD_cons_zero]; (first | done | exact rfl)))); (simp only [rel.put_lit, List.set_cons_succ, List.set_cons_zero]))
  (apply rel.walk_val; (focus (intro wq hq hf; go_wp2; refine ⟨hq, Below.refl _ _, ?_, rfl⟩; (show rel.slot _ _ = _; simp only [rel.slot_lit, List.getD_cons_succ, List.getD_cons_zero]; (first | done | exact rfl)))); (simp only [rel.put_lit, List.set_cons_succ, List.set_cons_zero]))
  (apply rel.walk_val; (focus (intro wq hq hf; go_wp2; refine ⟨hq, Below.refl _ _, ?_, rfl⟩; (show rel.slot _ _ = _; simp only [rel.slot_lit, List.getD_cons_succ, List.getD_cons_zero]; (first | done | exact rfl)))); (simp only [rel.put_lit, List.set_cons_succ, List.set_cons_zero]))
  (apply rel.walk_val; (focus (intro wq hq hf; go_wp2; refine ⟨hq, Below.refl _ _, ?_, rfl⟩; (show rel.slot _ _ = _; simp only [rel.slot_lit, List.getD_cons_succ, List.getD_cons_zero]; (first | done | exact rfl)))); (simp only [rel.put_lit, List.set_cons_succ, List.set_cons_zero]))
  refine rel.walk_nil ?_
  intro W1 K1 hF
  clear hF hl1 ha1
  have K := hb0.trans (K1.mono hb0.size)
  replace hA := hA.on K1
  replace hB2 := hB2.on K1
  replace hR := hR.on K1
  clear K1 hb0
  have c0 := hA.cell 0
  have e0 := hB2.cell 0
  have d0 := hR.cell 0
  have l0 := hA.lt
  have l1 := hR.lt
  have l2 := hB2.lt
  have f0 := hR.free 0
  simp only [List.getElem?_cons_zero] at c0 d0 e0
  go_wp2_with (first
    | (go_at_call 33; (with_reducible refine (ha2 _ K).mono ?_); clear ha2; rintro e W2 ⟨rfl, hb1⟩; replace hA := hA.on hb1; replace hB2 := hB2.on hb1; replace hR := hR.on hb1; replace K := K.trans (hb1.mono K.size); clear c0 d0 e0 f0 l0 l1 l2 hb1; have c0 := hA.cell 0; have e0 := hB2.cell 0; have d0 := hR.cell 0; have l0 := hA.lt; have l1 := hR.lt; have l2 := hB2.lt; have f0 := hR.free 0; simp only [List.getElem?_cons_zero] at c0 d0 e0)
    | (go_at_call 50; (with_reducible refine (hcl _ _ _ K (hgl _ _ K rfl) (hgm _ _ K rfl)).mono ?_); clear hcl hgl hgm; rintro e W3 ⟨⟨u, rfl, hu⟩, hb1⟩; replace hR := hR.on hb1; replace K := K.trans (hb1.mono K.size); clear c0 d0 e0 f0 l0 l1 l2 hb1 hA hB2; have d0 := hR.cell 0; have f0 := hR.free 0; have l1 := hR.lt; simp only [List.getElem?_cons_zero] at d0; have hu2 := hu; obtain ⟨pz, t_z, rfl, -⟩ := hu2))
  obtain ⟨W9, hW9, hS, hQ, hB, -⟩ := stored hR (by omega) K (hdone.out _ _ hu)
  rw [hW9]
  have g0 := hS.cell 0
  simp only [List.getElem?_cons_zero] at g0
  refine bodyPost_ret (v := rv pz) (by simp [results, Try.results29, go_sem, g0]) rfl ⟨⟨_, rfl, hQ⟩, hB⟩

set_option maxHeartbeats 8000000 in
theorem join_mix {v u : Value} {l m : List Int} {w : World} {y z : Int} (hv : IsSet w w.heap.size v l) (hu : IsSet w w.heap.size u m) (hbd : l.length + m.length < 576460752303423400) (h1 : at_ l ((l.length : Int) - 1) = (y, true)) (h2 : at_ m 0 = (z, true)) (hle : z ≤ y) :
    Calls Try.prog 29 #[v, u] w fun e w' => (∃ q, e = .returned (rv q) ∧ IsSet w' w'.heap.size (rv q) (uni l m)) ∧ Below w.heap.size w w' := by
  have hl1 := fun W (hW : Below w.heap.size w W) => len_any v l W (hv.on hW)
  have ha1 := fun W (hW : Below w.heap.size w W) => at_any (hv.on hW) (by omega) (by omega) h1
  have ha2 := fun W (hW : Below w.heap.size w W) => at_any (hu.on hW) (by omega) (by omega) h2
  have hcl := fun W (hW : Below w.heap.size w W) => set_union (hv.on hW) (hu.on hW) hbd
  have hdone : Hid (∀ W q, IsG W (.pointer q) (Good (uni l m)) → IsSet W W.heap.size (rv q) (uni l m)) := Lib.hid fun W q h => isSet_of h (uni_asc _ _) (fun z hz => (mem_uni.1 hz).elim (hv.wf z) (hu.wf z))
  obtain ⟨p, rfl⟩ := hv.val
  obtain ⟨q, rfl⟩ := hu.val
  obtain ⟨Wa, hW0⟩ : ∃ Wa, (((w.alloc (.cells #[.pointer p] tyH)).alloc (.cells #[.pointer q] tyH)).alloc (.cells #[.pointer none] tyH)) = Wa := ⟨_, rfl⟩
  have hR : hp.Blk Wa (w.heap.size + 2) tyH [.pointer none] := by
    rw [← hW0]
    exact hp.Blk.newAt (by simp)
  have hB2 : hp.Blk Wa (w.heap.size + 1) tyH [.pointer q] := by
    rw [← hW0]
    exact (hp.Blk.newAt (by simp)).alloc _
  have hA : hp.Blk Wa w.heap.size tyH [.pointer p] := by
    rw [← hW0]
    exact ((hp.Blk.newAt (by simp)).alloc _).alloc _
  have hb0 : Below w.heap.size w Wa := by
    rw [← hW0]
    ((repeat' (first | with_reducible exact Below.refl _ _ | with_reducible apply Below.setCell | with_reducible apply below_drewN | with_reducible apply Below.drew | with_reducible apply Below.alloc | with_reducible refine Below.trans ?_ (Below.mono (by assumption) ?_))) <;> (first | (simp; done) | (simp; omega) | omega))
  obtain ⟨N, hN⟩ : ∃ N, l.length = N := ⟨_, rfl⟩
  rw [hN] at hl1 ha1
  have hN2 : N < 576460752303423400 := by omega
  generalize uni l m = M at *
  clear hv hu hbd h1 h2 hN
  go_enter Try.func29, Try.ntmps29
  go_wp2_with fail
  clear hW0
  apply rel.region (C := fun w' => Below Wa.heap.size Wa w') (X := fun w w' => Below w.heap.size w w') (by kernel_rfl) (by kernel_rfl) (by kernel_rfl) ((Below.refl _ _).drew)
  ((apply rel.walk_val; (focus (intro wq hq hf; (have d0 := (((hA).below hq (hA).lt)).cell 0; simp only [List.getElem?_cons_zero] at d0); go_wp2; refine ⟨hq, Below.refl _ _, ?_, rfl⟩; (show rel.slot _ _ = _; simp only [rel.slot_lit, List.getD_cons_succ, List.getD_cons_zero]; (first | done | exact rfl)))); (simp only [rel.put_lit, List.set_cons_succ, List.set_cons_zero])))
  ((apply rel.walk_val; (focus (intro wq hq hf; (have d0 := (((hA).below hq (hA).lt)).cell 0; simp only [List.getElem?_cons_zero] at d0); go_wp2; refine ⟨hq, Below.refl _ _, ?_, rfl⟩; (show rel.slot _ _ = _; simp only [rel.slot_lit, List.getD_cons_succ, List.getD_cons_zero]; (first | done | exact rfl)))); (simp only [rel.put_lit, List.set_cons_succ, List.set_cons_zero])))
  (apply rel.walk_val; (focus (intro wq hq hf; go_wp2_with (go_at_call 19; refine (hl1 _ (hb0.trans (hq.mono hb0.size))).mono ?_; rintro e w'' ⟨rfl, hb⟩); refine ⟨hq.trans (hb.mono hq.size), hb, ?_, rfl⟩; (show rel.slot _ _ = _; simp only [rel.slot_lit, List.getD_cons_succ, List.getD_cons_zero]; (first | done | exact rfl)))); (simp only [rel.put_lit, List.set_cons_succ, List.set_cons_zero]))
  (apply rel.walk_val; (focus (intro wq hq hf; go_wp2; refine ⟨hq, Below.refl _ _, ?_, rfl⟩; (show rel.slot _ _ = _; simp only [rel.slot_lit, List.getD_cons_succ, List.getD_cons_zero]; (first | done | exact rfl)))); (simp only [rel.put_lit, List.set_cons_succ, List.set_cons_zero]))
  (apply rel.walk_val; (focus (intro wq hq hf; go_wp2_with (go_at_call 33; refine (ha1 _ (hb0.trans (hq.mono hb0.size))).mono ?_; rintro e w'' ⟨rfl, hb⟩); refine ⟨hq.trans (hb.mono hq.size), hb, ?_, rfl⟩; (show rel.slot _ _ = _; simp only [rel.slot_lit, List.getD_cons_succ, List.getD_cons_zero]; (first | done | exact rfl)))); (simp only [rel.put_lit, List.set_cons_succ, List.set_cons_zero]))
  (apply rel.walk_val; (focus (intro wq hq hf; go_wp2; refine ⟨hq, Below.refl _ _, ?_, rfl⟩; (show rel.slot _ _ = _; simp only [rel.slot_lit, List.getD_cons_succ, List.getD_cons_zero]; (first | done | exact rfl)))); (simp only [rel.put_lit, List.set_cons_succ, List.set_cons_zero]))
  (apply rel.walk_val; (focus (intro wq hq hf; go_wp2; refine ⟨hq, Below.refl _ _, ?_, rfl⟩; (show rel.slot _ _ = _; simp only [rel.slot_lit, List.getD_cons_succ, List.getD_cons_zero]; (first | done | exact rfl)))); (simp only [rel.put_lit, List.set_cons_succ, List.set_cons_zero]))
  (apply rel.walk_val; (focus (intro wq hq hf; go_wp2; refine ⟨hq, Below.refl _ _, ?_, rfl⟩; (show rel.slot _ _ = _; simp only [rel.slot_lit, List.getD_cons_succ, List.getD_cons_zero]; (first | done | exact rfl)))); (simp only [rel.put_lit, List.set_cons_succ, List.set_cons_zero]))
  (apply rel.walk_val; (focus (intro wq hq hf; go_wp2; refine ⟨hq, Below.refl _ _, ?_, rfl⟩; (show rel.slot _ _ = _; simp only [rel.slot_lit, List.getD_cons_succ, List.getD_cons_zero]; (first | done | exact rfl)))); (simp only [rel.put_lit, List.set_cons_succ, List.set_cons_zero]))
  (apply rel.walk_val; (focus (intro wq hq hf; go_wp2; refine ⟨hq, Below.refl _ _, ?_, rfl⟩; (show rel.slot _ _ = _; simp only [rel.slot_lit, List.getD_cons_succ, List.getD_cons_zero]; (first | done | exact rfl)))); (simp only [rel.put_lit, List.set_cons_succ, List.set_cons_zero]))
  refine rel.walk_nil ?_
  intro W1 K1 hF
  clear hF hl1 ha1
  have K := hb0.trans (K1.mono hb0.size)
  replace hA := hA.on K1
  replace hB2 := hB2.on K1
  replace hR := hR.on K1
  clear K1 hb0
  have c0 := hA.cell 0
  have e0 := hB2.cell 0
  have d0 := hR.cell 0
  have l0 := hA.lt
  have l1 := hR.lt
  have l2 := hB2.lt
  have f0 := hR.free 0
  simp only [List.getElem?_cons_zero] at c0 d0 e0
  go_wp2_with (first
    | (go_at_call 33; (with_reducible refine (ha2 _ K).mono ?_); clear ha2; rintro e W2 ⟨rfl, hb1⟩; replace hA := hA.on hb1; replace hB2 := hB2.on hb1; replace hR := hR.on hb1; replace K := K.trans (hb1.mono K.size); clear c0 d0 e0 f0 l0 l1 l2 hb1; have c0 := hA.cell 0; have e0 := hB2.cell 0; have d0 := hR.cell 0; have l0 := hA.lt; have l1 := hR.lt; have l2 := hB2.lt; have f0 := hR.free 0; simp only [List.getElem?_cons_zero] at c0 d0 e0)
    | (go_at_call 26; (with_reducible refine (hcl _ K).mono ?_); clear hcl; rintro e W3 ⟨⟨pz, rfl, hu⟩, hb1⟩; replace hR := hR.on hb1; replace K := K.trans (hb1.mono K.size); clear c0 d0 e0 f0 l0 l1 l2 hb1 hA hB2; have d0 := hR.cell 0; have f0 := hR.free 0; have l1 := hR.lt; simp only [List.getElem?_cons_zero] at d0))
  obtain ⟨W9, hW9, hS, hQ, hB, -⟩ := stored hR (by omega) K (hu)
  rw [hW9]
  have g0 := hS.cell 0
  simp only [List.getElem?_cons_zero] at g0
  refine bodyPost_ret (v := rv pz) (by simp [results, Try.results29, go_sem, g0]) rfl ⟨⟨_, rfl, hQ⟩, hB⟩

theorem set_join {v u : Value} {l m : List Int} {w : World} (hv : IsSet w w.heap.size v l) (hu : IsSet w w.heap.size u m) (hbd : l.length + m.length < 576460752303423400) :
    Calls Try.prog 29 #[v, u] w fun e w' => (∃ q, e = .returned (rv q) ∧ IsSet w' w'.heap.size (rv q) (uni l m)) ∧ Below w.heap.size w w' := by
  have al := hv.asc
  have am := hu.asc
  rcases m with _ | ⟨z, tl⟩
  · have hT : l ++ [] = uni l [] := by rw [List.append_nil, nil_uni al]
    by_cases h0 : l = []
    · subst h0
      exact join_nil hv hu hbd (at_nil _) (at_nil _) hT
    · obtain ⟨y, h1, -, -⟩ := at_last al h0
      exact join_one hv hu hbd h1 (at_nil _) hT
  · obtain ⟨h2, hz⟩ := at_first am
    by_cases h0 : l = []
    · subst h0
      exact join_nil hv hu hbd (at_nil _) h2 (by rw [List.nil_append, uni_nil am])
    · obtain ⟨y, h1, hy, hm⟩ := at_last al h0
      by_cases hle : z ≤ y
      · exact join_mix hv hu hbd h1 h2 hle
      · exact join_app hv hu hbd h1 h2 (uni_app al am fun a ha b hb => by have := hm a ha; have := hz b hb; omega) hle
end Go.Proofs.Ytbdmccokdbfkpaa.wbt
