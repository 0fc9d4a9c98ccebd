/- Package pair: Len, Push, Join, Min, Pop. -/
import Derived.Test.YtnfoadhhgonfkaaParRows
namespace Go.Proofs.Ytnfoadhhgonfkaa.par
open Go Go.RowKit
open Go.Proofs.Ytnfoadhhgonfkaa.bin (srt srt_perm srt_len srt_rises rises_one srt_eq srt_of)

set_option maxHeartbeats 4000000 in
theorem len_any (v : Value) (l : List Int) (w : World) (hv : IsHeap w w.heap.size v l) :
    Calls Try.prog 15 #[v] w fun e w' => e = .returned (.int .i64 l.length) ∧ Below w.heap.size w w' := by
  obtain ⟨p, rfl⟩ := hv.val
  clear hv
  go_enter Try.func15, Try.ntmps15
  go_wp2_with fail
  go_ret
  refine ⟨rfl, ?_⟩
  ((repeat' (first | with_reducible exact Below.refl _ _ | with_reducible apply Below.setCell | with_reducible apply below_drewN | with_reducible apply Below.drew | with_reducible apply Below.alloc | with_reducible refine Below.trans ?_ (Below.mono (by assumption) ?_))) <;> (first | (simp; done) | (simp; omega) | omega))

set_option maxHeartbeats 8000000 in
theorem push_any {v : Value} {l : List Int} {x : Int} {w : World} (hv : IsHeap w w.heap.size v l) (hx : (Lit.int .i64 x).wf = true) (hbd : l.length < 4611686018427387900) :
    Calls Try.prog 9 #[v, .int .i64 x] w fun e w' => (∃ q, e = .returned (rv q (l.length + 1)) ∧ IsHeap w' w'.heap.size (rv q (l.length + 1)) (x :: l)) ∧ Below w.heap.size w w' := by
  obtain ⟨p, t, rfl, hn, ho, hpm, hw⟩ := hv
  have hwf : ∀ y ∈ x :: l, (Lit.int .i64 y).wf = true := by
    intro y hy
    rcases List.mem_cons.1 hy with rfl | hy
    · exact hx
    · exact hw y hy
  have hcl : ∀ (W : World) (u : Option Addr), Below w.heap.size w W → IsTr W (.pointer u) [x] →
      Calls Try.prog 19 #[.pointer p, .pointer u] W fun e w' => (∃ q, e = .returned q ∧ IsTr w' q (x :: l)) ∧ Below W.heap.size W w' := by
    intro W u hW hu
    refine (link_to (l := l) ⟨p, t, rfl, hn.grow hW hW.size, ho, hpm⟩ hu).mono ?_
    rintro _ _ ⟨⟨u, he, h⟩, hb⟩
    exact ⟨⟨u, he, h.perm (List.perm_append_comm (l₁ := l) (l₂ := [x]))⟩, hb⟩
  have hwr : wrap64 ((l.length : Int) + 1) = ((l.length + 1 : Nat) : Int) := by rw [wrap_small (by omega) (by omega)]; omega
  replace hwr := Lib.hid hwr
  replace hwf := Lib.hid hwf
  have hbd2 : (l.length : Int) < 4611686018427387900 := by omega
  obtain ⟨L, hL⟩ : ∃ L : Int, (l.length : Int) = L := ⟨_, rfl⟩
  rw [hL] at hwr hbd2
  obtain ⟨W0, hW0⟩ : ∃ W0, ((w.alloc (.cells #[.pointer p, .int .i64 L] tyH)).alloc (.cells #[.pointer none, .int .i64 0] tyH)) = W0 := ⟨_, rfl⟩
  have hR : hp.Blk W0 (w.heap.size + 1) tyH [.pointer none, .int .i64 0] := by
    rw [← hW0]
    exact hp.Blk.newAt (by simp)
  have hA : hp.Blk W0 w.heap.size tyH [.pointer p, .int .i64 L] := by
    rw [← hW0]
    exact (hp.Blk.newAt (by simp)).alloc _
  have hb0 : Below w.heap.size w W0 := by
    rw [← hW0]
    ((repeat' (first | with_reducible exact Below.refl _ _ | with_reducible apply Below.setCell | with_reducible apply below_drewN | with_reducible apply Below.drew | with_reducible apply Below.alloc | with_reducible refine Below.trans ?_ (Below.mono (by assumption) ?_))) <;> (first | (simp; done) | (simp; omega) | omega))
  rw [show rv p l.length = .agg #[.pointer p, .int .i64 L] by rw [← hL]]
  replace hL := Lib.hid hL
  clear hn ho hpm hw hx hbd
  go_enter Try.func9, Try.ntmps9
  go_wp2_with fail
  clear hW0
  apply rel.region_tail (C := fun w' => Below W0.heap.size W0 w') (X := fun w w' => Below w.heap.size w w') 9 (by kernel_rfl) (by kernel_rfl) (by kernel_rfl) (by kernel_rfl) ((Below.refl _ _).drew)
  (apply rel.walk_val; (focus (intro wq hq hf; go_wp2; refine ⟨hq, Below.refl _ _, ?_, rfl⟩; (show rel.slot _ _ = _; simp only [rel.slot_lit, List.getD_cons_succ, List.getD_cons_zero]; (first | done | exact rfl)))); (simp only [rel.put_lit, List.set_cons_succ, List.set_cons_zero]))
  ((apply rel.walk_val; (focus (intro wq hq hf; (obtain ⟨d0, d1⟩ := ((hA).below hq (hA).lt).cells2); go_wp2; refine ⟨hq, Below.refl _ _, ?_, rfl⟩; (show rel.slot _ _ = _; simp only [rel.slot_lit, List.getD_cons_succ, List.getD_cons_zero]; (first | done | exact rfl)))); (simp only [rel.put_lit, List.set_cons_succ, List.set_cons_zero])))
  (apply rel.walk_val; (focus (intro wq hq hf; go_wp2; refine ⟨hq, Below.refl _ _, ?_, rfl⟩; (show rel.slot _ _ = _; simp only [rel.slot_lit, List.getD_cons_succ, List.getD_cons_zero]; (first | done | exact rfl)))); (simp only [rel.put_lit, List.set_cons_succ, List.set_cons_zero]))
  (apply rel.walk_val; (focus (intro wq hq hf; go_wp2; refine ⟨hq, Below.refl _ _, ?_, rfl⟩; (show rel.slot _ _ = _; simp only [rel.slot_lit, List.getD_cons_succ, List.getD_cons_zero]; (first | done | exact rfl)))); (simp only [rel.put_lit, List.set_cons_succ, List.set_cons_zero]))
  (apply rel.walk_rel (fun u w' => par.IsTr w' u [x]) ⟨_, rfl⟩ (fun u w1 w2 h1 h2 => h2.on h1); (focus (intro wq hq hf; go_wp2; refine ⟨hq.alloc hq.size _, (Below.refl _ _).alloc (Nat.le_refl _) _, ?_, rfl⟩; (show par.IsTr _ (rel.slot _ _) _; simp only [rel.slot_lit, List.getD_cons_succ, List.getD_cons_zero]; exact par.IsTr.one (hp.Blk.new _ _ _)))); (intro u wu _ hu; obtain ⟨pu, t_pu, rfl, -⟩ := hu; (simp only [rel.put_lit, List.set_cons_succ, List.set_cons_zero])))
  (apply rel.walk_rel (fun u w' => par.IsTr w' u (x :: l)) ⟨_, rfl⟩ (fun u w1 w2 h1 h2 => h2.on h1); (focus (intro wq hq hf; go_wp2_with (go_at_call 19; with_reducible refine (hcl _ _ (hb0.trans (hq.mono hb0.size)) (hf.get 0 rfl rfl)).mono ?_; rintro e w'' ⟨⟨u, rfl, hu⟩, hb⟩); refine ⟨hq.trans (hb.mono hq.size), hb, ?_, rfl⟩; (show par.IsTr _ (rel.slot _ _) _; simp only [rel.slot_lit, List.getD_cons_succ, List.getD_cons_zero]; exact hu))); (intro u wu _ hu; obtain ⟨pz, t_pz, rfl, -⟩ := hu; (simp only [rel.put_lit, List.set_cons_succ, List.set_cons_zero])))
  (apply rel.walk_val; (focus (intro wq hq hf; go_wp2; refine ⟨hq, Below.refl _ _, ?_, rfl⟩; (show rel.slot _ _ = _; simp only [rel.slot_lit, List.getD_cons_succ, List.getD_cons_zero]; (first | done | exact rfl)))); (simp only [rel.put_lit, List.set_cons_succ, List.set_cons_zero]))
  ((apply rel.walk_val; (focus (intro wq hq hf; (obtain ⟨d0, d1⟩ := ((hA).below hq (hA).lt).cells2); go_wp2; refine ⟨hq, Below.refl _ _, ?_, rfl⟩; (show rel.slot _ _ = _; simp only [rel.slot_lit, List.getD_cons_succ, List.getD_cons_zero]; (first | done | exact rfl)))); (simp only [rel.put_lit, List.set_cons_succ, List.set_cons_zero])))
  (apply rel.walk_val; (focus (intro wq hq hf; go_wp2; refine ⟨hq, Below.refl _ _, ?_, rfl⟩; (show rel.slot _ _ = _; simp only [rel.slot_lit, List.getD_cons_succ, List.getD_cons_zero]; (first | done | exact rfl)))); (simp only [rel.put_lit, List.set_cons_succ, List.set_cons_zero]))
  refine rel.walk_nil ?_
  intro w9 K9 hF
  have hu : IsTr w9 (.pointer pz) (x :: l) := hF _ (List.mem_cons_self ..)
  have hR9 := hR.on K9
  obtain ⟨d0, d1⟩ := hR9.cells2
  have f0 := hR9.free 0
  have f1 := hR9.free 1
  clear hF hcl
  simp only [List.drop_succ_cons, List.drop_zero]
  go_wp2_with fail
  rw [hwr.out]
  obtain ⟨W9, hW9, hS, hQ, hB, -⟩ := stored (k := ((l.length + 1 : Nat) : Int)) rfl hR9 (by omega) (hb0.trans (K9.mono hb0.size)) (hu.heap (List.Perm.refl _) hwf.out)
  rw [hW9]
  obtain ⟨g0, g1⟩ := hS.cells2
  refine bodyPost_ret (v := rv pz (l.length + 1)) (by simp [results, Try.results9, go_sem, g0, g1]) rfl ⟨⟨_, rfl, hQ⟩, hB⟩

set_option maxHeartbeats 8000000 in
theorem heap_join {v u : Value} {l m : List Int} {w : World} (hv : IsHeap w w.heap.size v l) (hu : IsHeap w w.heap.size u m) (hbd : l.length + m.length < 4611686018427387900) :
    Calls Try.prog 10 #[v, u] w fun e w' => (∃ q, e = .returned (rv q (l ++ m).length) ∧ IsHeap w' w'.heap.size (rv q (l ++ m).length) (l ++ m)) ∧ Below w.heap.size w w' := by
  obtain ⟨p, t, rfl, hn, ho, hpm, hw⟩ := hv
  obtain ⟨p2, t2, rfl, hn2, ho2, hpm2, hw2⟩ := hu
  have hwf : ∀ y ∈ l ++ m, (Lit.int .i64 y).wf = true := by
    intro y hy
    rcases List.mem_append.1 hy with hy | hy
    · exact hw y hy
    · exact hw2 y hy
  have hcl : ∀ (W : World), Below w.heap.size w W → Calls Try.prog 19 #[.pointer p, .pointer p2] W fun e w' => (∃ q, e = .returned q ∧ IsTr w' q (l ++ m)) ∧ Below W.heap.size W w' := fun W hW =>
    link_to ⟨p, t, rfl, hn.grow hW hW.size, ho, hpm⟩ ⟨p2, t2, rfl, hn2.grow hW hW.size, ho2, hpm2⟩
  have hwr : wrap64 ((l.length : Int) + (m.length : Int)) = ((l ++ m).length : Int) := by rw [wrap_small (by omega) (by omega), List.length_append]; omega
  replace hwr := Lib.hid hwr
  replace hwf := Lib.hid hwf
  have hbd2 : (l.length : Int) + (m.length : Int) < 4611686018427387900 := by omega
  obtain ⟨R, hR⟩ : ∃ R, l ++ m = R := ⟨_, rfl⟩
  rw [hR] at hwr hwf hcl ⊢
  obtain ⟨L, hL⟩ : ∃ L : Int, (l.length : Int) = L := ⟨_, rfl⟩
  obtain ⟨M, hM⟩ : ∃ M : Int, (m.length : Int) = M := ⟨_, rfl⟩
  rw [hL, hM] at hwr hbd2
  obtain ⟨W0, hW0⟩ : ∃ W0, (((w.alloc (.cells #[.pointer p, .int .i64 L] tyH)).alloc (.cells #[.pointer p2, .int .i64 M] tyH)).alloc (.cells #[.pointer none, .int .i64 0] tyH)) = W0 := ⟨_, rfl⟩
  have hR0 : hp.Blk W0 (w.heap.size + 1 + 1) tyH [.pointer none, .int .i64 0] := by
    rw [← hW0]
    exact hp.Blk.newAt (by simp)
  have hA : hp.Blk W0 w.heap.size tyH [.pointer p, .int .i64 L] := by
    rw [← hW0]
    exact ((hp.Blk.newAt (by simp)).alloc _).alloc _
  have hC : hp.Blk W0 (w.heap.size + 1) tyH [.pointer p2, .int .i64 M] := by
    rw [← hW0]
    exact (hp.Blk.newAt (by simp)).alloc _
  have hb0 : Below w.heap.size w W0 := by
    rw [← hW0]
    ((repeat' (first | with_reducible exact Below.refl _ _ | with_reducible apply Below.setCell | with_reducible apply below_drewN | with_reducible apply Below.drew | with_reducible apply Below.alloc | with_reducible refine Below.trans ?_ (Below.mono (by assumption) ?_))) <;> (first | (simp; done) | (simp; omega) | omega))
  rw [show rv p l.length = .agg #[.pointer p, .int .i64 L] by rw [← hL], show rv p2 m.length = .agg #[.pointer p2, .int .i64 M] by rw [← hM]]
  clear hn ho hpm hw hbd hn2 ho2 hpm2 hw2 hR hL hM
  go_enter Try.func10, Try.ntmps10
  go_wp2_with fail
  clear hW0
  apply rel.region_tail (C := fun w' => Below W0.heap.size W0 w') (X := fun w w' => Below w.heap.size w w') 10 (by kernel_rfl) (by kernel_rfl) (by kernel_rfl) (by kernel_rfl) ((Below.refl _ _).drew)
  (apply rel.walk_val; (focus (intro wq hq hf; go_wp2; refine ⟨hq, Below.refl _ _, ?_, rfl⟩; (show rel.slot _ _ = _; simp only [rel.slot_lit, List.getD_cons_succ, List.getD_cons_zero]; (first | done | exact rfl)))); (simp only [rel.put_lit, List.set_cons_succ, List.set_cons_zero]))
  ((apply rel.walk_val; (focus (intro wq hq hf; (obtain ⟨d0, d1⟩ := ((hA).below hq (hA).lt).cells2); go_wp2; refine ⟨hq, Below.refl _ _, ?_, rfl⟩; (show rel.slot _ _ = _; simp only [rel.slot_lit, List.getD_cons_succ, List.getD_cons_zero]; (first | done | exact rfl)))); (simp only [rel.put_lit, List.set_cons_succ, List.set_cons_zero])))
  (apply rel.walk_val; (focus (intro wq hq hf; go_wp2; refine ⟨hq, Below.refl _ _, ?_, rfl⟩; (show rel.slot _ _ = _; simp only [rel.slot_lit, List.getD_cons_succ, List.getD_cons_zero]; (first | done | exact rfl)))); (simp only [rel.put_lit, List.set_cons_succ, List.set_cons_zero]))
  ((apply rel.walk_val; (focus (intro wq hq hf; (obtain ⟨d0, d1⟩ := ((hC).below hq (hC).lt).cells2); go_wp2; refine ⟨hq, Below.refl _ _, ?_, rfl⟩; (show rel.slot _ _ = _; simp only [rel.slot_lit, List.getD_cons_succ, List.getD_cons_zero]; (first | done | exact rfl)))); (simp only [rel.put_lit, List.set_cons_succ, List.set_cons_zero])))
  (apply rel.walk_rel (fun u w' => par.IsTr w' u (R)) ⟨_, rfl⟩ (fun u w1 w2 h1 h2 => h2.on h1); (focus (intro wq hq hf; go_wp2_with (go_at_call 19; with_reducible refine (hcl _ (hb0.trans (hq.mono hb0.size))).mono ?_; rintro e w'' ⟨⟨u, rfl, hu⟩, hb⟩); refine ⟨hq.trans (hb.mono hq.size), hb, ?_, rfl⟩; (show par.IsTr _ (rel.slot _ _) _; simp only [rel.slot_lit, List.getD_cons_succ, List.getD_cons_zero]; exact hu))); (intro u wu _ hu; obtain ⟨pz, t_pz, rfl, -⟩ := hu; (simp only [rel.put_lit, List.set_cons_succ, List.set_cons_zero])))
  (apply rel.walk_val; (focus (intro wq hq hf; go_wp2; refine ⟨hq, Below.refl _ _, ?_, rfl⟩; (show rel.slot _ _ = _; simp only [rel.slot_lit, List.getD_cons_succ, List.getD_cons_zero]; (first | done | exact rfl)))); (simp only [rel.put_lit, List.set_cons_succ, List.set_cons_zero]))
  ((apply rel.walk_val; (focus (intro wq hq hf; (obtain ⟨d0, d1⟩ := ((hA).below hq (hA).lt).cells2); go_wp2; refine ⟨hq, Below.refl _ _, ?_, rfl⟩; (show rel.slot _ _ = _; simp only [rel.slot_lit, List.getD_cons_succ, List.getD_cons_zero]; (first | done | exact rfl)))); (simp only [rel.put_lit, List.set_cons_succ, List.set_cons_zero])))
  (apply rel.walk_val; (focus (intro wq hq hf; go_wp2; refine ⟨hq, Below.refl _ _, ?_, rfl⟩; (show rel.slot _ _ = _; simp only [rel.slot_lit, List.getD_cons_succ, List.getD_cons_zero]; (first | done | exact rfl)))); (simp only [rel.put_lit, List.set_cons_succ, List.set_cons_zero]))
  ((apply rel.walk_val; (focus (intro wq hq hf; (obtain ⟨d0, d1⟩ := ((hC).below hq (hC).lt).cells2); go_wp2; refine ⟨hq, Below.refl _ _, ?_, rfl⟩; (show rel.slot _ _ = _; simp only [rel.slot_lit, List.getD_cons_succ, List.getD_cons_zero]; (first | done | exact rfl)))); (simp only [rel.put_lit, List.set_cons_succ, List.set_cons_zero])))
  (apply rel.walk_val; (focus (intro wq hq hf; go_wp2; refine ⟨hq, Below.refl _ _, ?_, rfl⟩; (show rel.slot _ _ = _; simp only [rel.slot_lit, List.getD_cons_succ, List.getD_cons_zero]; (first | done | exact rfl)))); (simp only [rel.put_lit, List.set_cons_succ, List.set_cons_zero]))
  refine rel.walk_nil ?_
  intro w9 K9 hF
  have hu : IsTr w9 (.pointer pz) R := hF _ (List.mem_cons_self ..)
  have hR9 := hR0.on K9
  obtain ⟨d0, d1⟩ := hR9.cells2
  have f0 := hR9.free 0
  have f1 := hR9.free 1
  clear hF hcl
  simp only [List.drop_succ_cons, List.drop_zero]
  go_wp2_with fail
  rw [hwr.out]
  obtain ⟨W9, hW9, hS, hQ, hB, -⟩ := stored rfl hR9 (by omega) (hb0.trans (K9.mono hb0.size)) (hu.heap (List.Perm.refl _) hwf.out)
  rw [hW9]
  obtain ⟨g0, g1⟩ := hS.cells2
  refine bodyPost_ret (v := rv pz R.length) (by simp [results, Try.results10, go_sem, g0, g1]) rfl ⟨⟨_, rfl, hQ⟩, hB⟩

theorem heap_nil {v : Value} {w : World} (hv : IsHeap w w.heap.size v []) : v = rv none 0 := by
  obtain ⟨p, t, rfl, hn, -, hp, -⟩ := hv
  rcases t with _ | ⟨x, b⟩
  · obtain rfl : p = none := hn
    rfl
  · have := hp.length_eq
    simp [tnums] at this

set_option maxHeartbeats 4000000 in
theorem min_nil {v : Value} {w : World} (hv : IsHeap w w.heap.size v []) :
    Calls Try.prog 16 #[v] w fun e w' => e = .returned (.tuple #[.int .i64 0, .bool false]) ∧ Below w.heap.size w w' := by
  obtain rfl := heap_nil hv
  clear hv
  go_enter Try.func16, Try.ntmps16
  go_wp2_with fail
  go_ret2
  refine ⟨rfl, ?_⟩
  ((repeat' (first | with_reducible exact Below.refl _ _ | with_reducible apply Below.setCell | with_reducible apply below_drewN | with_reducible apply Below.drew | with_reducible apply Below.alloc | with_reducible refine Below.trans ?_ (Below.mono (by assumption) ?_))) <;> (first | (simp; done) | (simp; omega) | omega))

set_option maxHeartbeats 4000000 in
theorem min_cons {v : Value} {l tl : List Int} {z : Int} {w : World} (hv : IsHeap w w.heap.size v l) (hs : srt l = z :: tl) :
    Calls Try.prog 16 #[v] w fun e w' => e = .returned (.tuple #[.int .i64 z, .bool true]) ∧ Below w.heap.size w w' := by
  obtain ⟨p, t, rfl, hn, ho, hpm, -⟩ := hv
  obtain ⟨b, rfl, -⟩ := top_of hs hpm ho
  obtain ⟨g, c, rfl, hg, hk, -⟩ := hn
  have c0 := hk.cell 0
  simp only [List.getElem?_cons_zero] at c0
  clear hs hpm ho hk
  go_enter Try.func16, Try.ntmps16
  go_wp2_with fail
  go_ret2
  refine ⟨rfl, ?_⟩
  ((repeat' (first | with_reducible exact Below.refl _ _ | with_reducible apply Below.setCell | with_reducible apply below_drewN | with_reducible apply Below.drew | with_reducible apply Below.alloc | with_reducible refine Below.trans ?_ (Below.mono (by assumption) ?_))) <;> (first | (simp; done) | (simp; omega) | omega))

set_option maxHeartbeats 4000000 in
theorem pop_nil {v : Value} {w : World} (hv : IsHeap w w.heap.size v []) :
    Calls Try.prog 17 #[v] w fun e w' => e = .returned (.tuple #[.int .i64 0, rv none 0, .bool false]) ∧ Below w.heap.size w w' := by
  obtain rfl := heap_nil hv
  clear hv
  obtain ⟨W0, hW0⟩ : ∃ W0, ((w.alloc (.cells #[.pointer none, .int .i64 0] tyH)).alloc (.cells #[.pointer none, .int .i64 0] tyH)) = W0 := ⟨_, rfl⟩
  have hR : hp.Blk W0 (w.heap.size + 1) tyH [.pointer none, .int .i64 0] := by
    rw [← hW0]
    exact hp.Blk.newAt (by simp)
  have hA : hp.Blk W0 w.heap.size tyH [.pointer none, .int .i64 0] := by
    rw [← hW0]
    exact (hp.Blk.newAt (by simp)).alloc _
  have hb0 : Below w.heap.size w W0 := by
    rw [← hW0]
    ((repeat' (first | with_reducible exact Below.refl _ _ | with_reducible apply Below.setCell | with_reducible apply below_drewN | with_reducible apply Below.drew | with_reducible apply Below.alloc | with_reducible refine Below.trans ?_ (Below.mono (by assumption) ?_))) <;> (first | (simp; done) | (simp; omega) | omega))
  obtain ⟨c0, c1⟩ := hA.cells2
  obtain ⟨d0, d1⟩ := hR.cells2
  have f0 := hR.free 0
  have f1 := hR.free 1
  go_enter Try.func17, Try.ntmps17
  go_wp2_with fail
  obtain ⟨W9, hW9, hS, hQ, hB, -⟩ := stored (k := 0) (l := []) rfl hR (by omega) hb0 (IsHeap.nil _ _)
  rw [hW9]
  obtain ⟨g0, g1⟩ := hS.cells2
  refine bodyPost_ret (v := .tuple #[.int .i64 0, rv none 0, .bool false]) (by simp [results, Try.results17, go_sem, g0, g1]) rfl ⟨rfl, hB⟩

set_option maxHeartbeats 8000000 in
theorem pop_cons {v : Value} {l tl : List Int} {z : Int} {w : World} (hv : IsHeap w w.heap.size v l) (hs : srt l = z :: tl) (hbd : l.length < 4611686018427387900) :
    Calls Try.prog 17 #[v] w fun e w' => (∃ q, e = .returned (.tuple #[.int .i64 z, rv q tl.length, .bool true]) ∧ IsHeap w' w'.heap.size (rv q tl.length) tl) ∧ Below w.heap.size w w' := by
  obtain ⟨p, t, rfl, hn, ho, hpm, hw⟩ := hv
  have hlen := srt_len l
  rw [hs, List.length_cons] at hlen
  have hwt : ∀ x ∈ tl, (Lit.int .i64 x).wf = true := fun x hx => hw x ((srt_perm l).mem_iff.1 (by rw [hs]; simp [hx]))
  obtain ⟨b, rfl, hab, ob⟩ := top_of hs hpm ho
  obtain ⟨g, c, rfl, hg, hk, hb⟩ := hn
  have hcl : ∀ (W : World), Below w.heap.size w W → Calls Try.prog 25 #[.pointer c] W fun e w' => (∃ q, e = .returned q ∧ IsRw w' q tl) ∧ Below W.heap.size W w' := fun W hW => pairs_to (hb.grow hW hW.size) ob hab
  have hwr : (l.length : Int) - 1 = (tl.length : Int) := by omega
  have hbd2 : (l.length : Int) < 4611686018427387900 := by omega
  have hbd3 : 0 < (l.length : Int) := by omega
  replace hwr := Lib.hid hwr
  replace hwt := Lib.hid hwt
  obtain ⟨L, hL⟩ : ∃ L : Int, (l.length : Int) = L := ⟨_, rfl⟩
  rw [hL] at hwr hbd2 hbd3
  obtain ⟨W0, hW0⟩ : ∃ W0, ((w.alloc (.cells #[.pointer (some ⟨g, 0, none⟩), .int .i64 L] tyH)).alloc (.cells #[.pointer none, .int .i64 0] tyH)) = W0 := ⟨_, rfl⟩
  have hR : hp.Blk W0 (w.heap.size + 1) tyH [.pointer none, .int .i64 0] := by
    rw [← hW0]
    exact hp.Blk.newAt (by simp)
  have hA : hp.Blk W0 w.heap.size tyH [.pointer (some ⟨g, 0, none⟩), .int .i64 L] := by
    rw [← hW0]
    exact (hp.Blk.newAt (by simp)).alloc _
  have hb0 : Below w.heap.size w W0 := by
    rw [← hW0]
    ((repeat' (first | with_reducible exact Below.refl _ _ | with_reducible apply Below.setCell | with_reducible apply below_drewN | with_reducible apply Below.drew | with_reducible apply Below.alloc | with_reducible refine Below.trans ?_ (Below.mono (by assumption) ?_))) <;> (first | (simp; done) | (simp; omega) | omega))
  obtain ⟨a0, a1⟩ := hA.cells2
  have hk0 := hk.below hb0 hg
  rw [show rv (some ⟨g, 0, none⟩) l.length = .agg #[.pointer (some ⟨g, 0, none⟩), .int .i64 L] by rw [← hL]]
  clear ho hpm hw hbd hab ob hb hlen hs hk hL
  go_enter Try.func17, Try.ntmps17
  go_wp2_with fail
  clear hW0 a0 a1
  apply rel.region_tail (C := fun w' => Below W0.heap.size W0 w') (X := fun w w' => Below w.heap.size w w') 17 (by kernel_rfl) (by kernel_rfl) (by kernel_rfl) (by kernel_rfl) ((Below.refl _ _).drew)
  (apply rel.walk_val; (focus (intro wq hq hf; go_wp2; refine ⟨hq, Below.refl _ _, ?_, rfl⟩; (show rel.slot _ _ = _; simp only [rel.slot_lit, List.getD_cons_succ, List.getD_cons_zero]; (first | done | exact rfl)))); (simp only [rel.put_lit, List.set_cons_succ, List.set_cons_zero]))
  ((apply rel.walk_val; (focus (intro wq hq hf; (obtain ⟨d0, d1⟩ := ((hA).below hq (hA).lt).cells2); go_wp2; refine ⟨hq, Below.refl _ _, ?_, rfl⟩; (show rel.slot _ _ = _; simp only [rel.slot_lit, List.getD_cons_succ, List.getD_cons_zero]; (first | done | exact rfl)))); (simp only [rel.put_lit, List.set_cons_succ, List.set_cons_zero])))
  (apply rel.walk_val; (focus (intro wq hq hf; go_wp2; refine ⟨hq, Below.refl _ _, ?_, rfl⟩; (show rel.slot _ _ = _; simp only [rel.slot_lit, List.getD_cons_succ, List.getD_cons_zero]; (first | done | exact rfl)))); (simp only [rel.put_lit, List.set_cons_succ, List.set_cons_zero]))
  (apply rel.walk_val; (focus (intro wq hq hf; go_wp2; refine ⟨hq, Below.refl _ _, ?_, rfl⟩; (show rel.slot _ _ = _; simp only [rel.slot_lit, List.getD_cons_succ, List.getD_cons_zero]; (first | done | exact rfl)))); (simp only [rel.put_lit, List.set_cons_succ, List.set_cons_zero]))
  ((apply rel.walk_val; (focus (intro wq hq hf; (obtain ⟨d0, d1⟩ := ((hk0).below hq (hk0).lt).cells2); go_wp2; refine ⟨hq, Below.refl _ _, ?_, rfl⟩; (show rel.slot _ _ = _; simp only [rel.slot_lit, List.getD_cons_succ, List.getD_cons_zero]; (first | done | exact rfl)))); (simp only [rel.put_lit, List.set_cons_succ, List.set_cons_zero])))
  (apply rel.walk_val; (focus (intro wq hq hf; go_wp2; refine ⟨hq, Below.refl _ _, ?_, rfl⟩; (show rel.slot _ _ = _; simp only [rel.slot_lit, List.getD_cons_succ, List.getD_cons_zero]; (first | done | exact rfl)))); (simp only [rel.put_lit, List.set_cons_succ, List.set_cons_zero]))
  ((apply rel.walk_val; (focus (intro wq hq hf; (obtain ⟨d0, d1⟩ := ((hA).below hq (hA).lt).cells2); go_wp2; refine ⟨hq, Below.refl _ _, ?_, rfl⟩; (show rel.slot _ _ = _; simp only [rel.slot_lit, List.getD_cons_succ, List.getD_cons_zero]; (first | done | exact rfl)))); (simp only [rel.put_lit, List.set_cons_succ, List.set_cons_zero])))
  (apply rel.walk_val; (focus (intro wq hq hf; go_wp2; refine ⟨hq, Below.refl _ _, ?_, rfl⟩; (show rel.slot _ _ = _; simp only [rel.slot_lit, List.getD_cons_succ, List.getD_cons_zero]; (first | done | exact rfl)))); (simp only [rel.put_lit, List.set_cons_succ, List.set_cons_zero]))
  (apply rel.walk_val; (focus (intro wq hq hf; go_wp2; refine ⟨hq, Below.refl _ _, ?_, rfl⟩; (show rel.slot _ _ = _; simp only [rel.slot_lit, List.getD_cons_succ, List.getD_cons_zero]; (first | done | exact rfl)))); (simp only [rel.put_lit, List.set_cons_succ, List.set_cons_zero]))
  ((apply rel.walk_val; (focus (intro wq hq hf; (obtain ⟨d0, d1⟩ := ((hk0).below hq (hk0).lt).cells2); go_wp2; refine ⟨hq, Below.refl _ _, ?_, rfl⟩; (show rel.slot _ _ = _; simp only [rel.slot_lit, List.getD_cons_succ, List.getD_cons_zero]; (first | done | exact rfl)))); (simp only [rel.put_lit, List.set_cons_succ, List.set_cons_zero])))
  (apply rel.walk_rel (fun u w' => par.IsRw w' u (tl)) ⟨_, rfl⟩ (fun u w1 w2 h1 h2 => h2.on h1); (focus (intro wq hq hf; go_wp2_with (go_at_call 25; with_reducible refine (hcl _ (hb0.trans (hq.mono hb0.size))).mono ?_; rintro e w'' ⟨⟨u, rfl, hu⟩, hb⟩); refine ⟨hq.trans (hb.mono hq.size), hb, ?_, rfl⟩; (show par.IsRw _ (rel.slot _ _) _; simp only [rel.slot_lit, List.getD_cons_succ, List.getD_cons_zero]; exact hu))); (intro u wu _ hu; obtain ⟨pw, t_pw, rfl, -⟩ := hu; (simp only [rel.put_lit, List.set_cons_succ, List.set_cons_zero])))
  (apply rel.walk_rel (fun u w' => par.IsTr w' u (tl)) ⟨_, rfl⟩ (fun u w1 w2 h1 h2 => h2.on h1); (focus (intro wq hq hf; go_wp2_with (go_at_call 26; with_reducible refine (all_to (hf.get 0 rfl rfl)).mono ?_; rintro e w'' ⟨⟨u, rfl, hu⟩, hb⟩); refine ⟨hq.trans (hb.mono hq.size), hb, ?_, rfl⟩; (show par.IsTr _ (rel.slot _ _) _; simp only [rel.slot_lit, List.getD_cons_succ, List.getD_cons_zero]; exact hu))); (intro u wu _ hu; obtain ⟨pz, t_pz, rfl, -⟩ := hu; (simp only [rel.put_lit, List.set_cons_succ, List.set_cons_zero])))
  (apply rel.walk_val; (focus (intro wq hq hf; go_wp2; refine ⟨hq, Below.refl _ _, ?_, rfl⟩; (show rel.slot _ _ = _; simp only [rel.slot_lit, List.getD_cons_succ, List.getD_cons_zero]; (first | done | exact rfl)))); (simp only [rel.put_lit, List.set_cons_succ, List.set_cons_zero]))
  ((apply rel.walk_val; (focus (intro wq hq hf; (obtain ⟨d0, d1⟩ := ((hA).below hq (hA).lt).cells2); go_wp2; refine ⟨hq, Below.refl _ _, ?_, rfl⟩; (show rel.slot _ _ = _; simp only [rel.slot_lit, List.getD_cons_succ, List.getD_cons_zero]; (first | done | exact rfl)))); (simp only [rel.put_lit, List.set_cons_succ, List.set_cons_zero])))
  (apply rel.walk_val; (focus (intro wq hq hf; go_wp2; refine ⟨hq, Below.refl _ _, ?_, rfl⟩; (show rel.slot _ _ = _; simp only [rel.slot_lit, List.getD_cons_succ, List.getD_cons_zero]; (first | done | exact rfl)))); (simp only [rel.put_lit, List.set_cons_succ, List.set_cons_zero]))
  (apply rel.walk_rel (fun u w' => par.IsHeap w' w'.heap.size u (tl)) ⟨_, rfl⟩ (fun u w1 w2 h1 h2 => h2.on h1); (focus (intro wq hq hf; have hh0 := (show IsHeap wq wq.heap.size (.agg #[.pointer pz, .int .i64 (L - 1)]) tl from by rw [hwr.out]; exact IsTr.heap (hf.get 0 rfl rfl) (List.Perm.refl _) hwt.out); go_wp2; refine ⟨hq, Below.refl _ _, ?_, rfl⟩; (show par.IsHeap _ _ (rel.slot _ _) _; simp only [rel.slot_lit, List.getD_cons_succ, List.getD_cons_zero]; exact hh0))); (intro u wu _ hu; obtain ⟨py, t_py, rfl, -⟩ := hu; (simp only [rel.put_lit, List.set_cons_succ, List.set_cons_zero])))
  (apply rel.walk_val; (focus (intro wq hq hf; go_wp2; refine ⟨hq, Below.refl _ _, ?_, rfl⟩; (show rel.slot _ _ = _; simp only [rel.slot_lit, List.getD_cons_succ, List.getD_cons_zero]; (first | done | exact rfl)))); (simp only [rel.put_lit, List.set_cons_succ, List.set_cons_zero]))
  refine rel.walk_nil ?_
  intro w9 K9 hF
  have hu : IsHeap w9 w9.heap.size (rv py tl.length) tl := hF _ (List.mem_cons_self ..)
  have hR9 := hR.on K9
  obtain ⟨d0, d1⟩ := hR9.cells2
  have f0 := hR9.free 0
  have f1 := hR9.free 1
  clear hF hcl
  simp only [List.drop_succ_cons, List.drop_zero]
  go_wp2_with fail
  obtain ⟨W9, hW9, hS, hQ, hB, -⟩ := stored rfl hR9 (by omega) (hb0.trans (K9.mono hb0.size)) hu
  rw [hW9]
  obtain ⟨g0, g1⟩ := hS.cells2
  refine bodyPost_ret (v := .tuple #[.int .i64 z, rv py tl.length, .bool true]) (by simp [results, Try.results17, go_sem, g0, g1]) rfl ⟨⟨_, rfl, hQ⟩, hB⟩
end Go.Proofs.Ytnfoadhhgonfkaa.par
