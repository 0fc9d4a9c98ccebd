/- The walk of PairJoins. -/
import Derived.Test.YtnfoadhhgonfkaaParWalks
import Derived.Test.YtnfoadhhgonfkaaSorted
namespace Go.Proofs.Ytnfoadhhgonfkaa.pairJoins
open Go Go.RowKit Go.Proofs.Ytnfoadhhgonfkaa.par
open Go.Proofs.Ytnfoadhhgonfkaa.bin (srt srt_perm srt_len srt_rises rises_one srt_eq srt_of)
set_option linter.unusedVariables false

set_option maxHeartbeats 16000000 in
theorem walk_of (v0 : Value) (l0 : List Int) (v1 : Value) (l1 : List Int) (v2 : Value) (l2 : List Int) (w : World) (i0 : hp.IsInts w w.heap.size v0 l0) (i1 : hp.IsInts w w.heap.size v1 l1) (i2 : hp.IsInts w w.heap.size v2 l2) (bd : l0.length + l1.length + l2.length ≤ 1048576)
    (z : Int) (h : Bool) (hh : (h = true ∧ 0 < l0.length + l1.length) ∨ (h = false ∧ l0.length + l1.length = 0))
    (HM : ∀ (W : World) (u : Value) (l : List Int), l.Perm (l0 ++ l1) → IsHeap W W.heap.size u l → Calls Try.prog 16 #[u] W fun e w' => e = .returned (.tuple #[.int .i64 z, .bool h]) ∧ Below W.heap.size W w') :
    Calls Try.prog 4 #[v0, v1, v2] w fun e w' => e = .returned (.bool true) ∧ Below w.heap.size w w' := by
  have i0' := i0
  obtain ⟨b0, c0, rfl, -⟩ := i0'
  have i1' := i1
  obtain ⟨b1, c1, rfl, -⟩ := i1'
  have i2' := i2
  obtain ⟨b2, c2, rfl, -⟩ := i2'
  have K := Below.refl w.heap.size w
  have hs1 : srt ((l0 ++ l1) ++ l2) = srt ((l2 ++ l0) ++ l1) := srt_eq (by
    refine List.perm_append_comm.trans ?_
    rw [← List.append_assoc])
  have HM1 := fun W u (hu : IsHeap W W.heap.size u (l0 ++ l1)) => HM W u _ (List.Perm.refl _) hu
  have HM2 := fun W u (hu : IsHeap W W.heap.size u (l1 ++ l0)) => HM W u _ List.perm_append_comm hu
  clear HM
  obtain ⟨AB, hAB⟩ : ∃ R, l0 ++ l1 = R := ⟨_, rfl⟩
  obtain ⟨BA, hBA⟩ : ∃ R, l1 ++ l0 = R := ⟨_, rfl⟩
  obtain ⟨CA, hCA⟩ : ∃ R, l2 ++ l0 = R := ⟨_, rfl⟩
  have lAB : AB.length = l0.length + l1.length := by rw [← hAB, List.length_append]
  have lCA : CA.length = l2.length + l0.length := by rw [← hCA, List.length_append]
  rw [hAB, hCA] at hs1
  rw [hAB] at HM1
  rw [hBA] at HM2
  obtain ⟨ABC, hABC⟩ : ∃ R, AB ++ l2 = R := ⟨_, rfl⟩
  obtain ⟨CAB, hCAB⟩ : ∃ R, CA ++ l1 = R := ⟨_, rfl⟩
  have lABC : ABC.length = AB.length + l2.length := by rw [← hABC, List.length_append]
  have lCAB : CAB.length = CA.length + l1.length := by rw [← hCAB, List.length_append]
  rw [hABC, hCAB] at hs1
  have HJ1 := join_as hAB (by omega)
  have HJ2 := join_as hABC (by omega)
  have HJ3 := join_as hCA (by omega)
  have HJ4 := join_as hCAB (by omega)
  have HJ5 := join_as hBA (by omega)
  obtain ⟨s0, hs0⟩ : ∃ s0, srt ABC = s0 := ⟨_, rfl⟩
  have HI1 : ∀ (W : World) (u : Value), IsHeap W W.heap.size u ABC → Calls Try.prog 12 #[u] W fun e w' => (∃ u, e = .returned u ∧ hp.IsInts w' w'.heap.size u s0) ∧ Below W.heap.size W w' := fun W u hu => by
    rw [← hs0]
    exact ints_any hu (by omega)
  have HI2 : ∀ (W : World) (u : Value), IsHeap W W.heap.size u CAB → Calls Try.prog 12 #[u] W fun e w' => (∃ u, e = .returned u ∧ hp.IsInts w' w'.heap.size u s0) ∧ Below W.heap.size W w' := fun W u hu => by
    rw [← hs0, hs1]
    exact ints_any hu (by omega)
  clear hs1 hs0 lAB lCA lABC lCAB hAB hBA hCA hABC hCAB
  go_enter Try.func4, Try.ntmps4
  go_wp2_with (first
    | (go_at_call 7; with_reducible refine (paired_any _).mono ?_; rintro e wa ⟨rfl, hb⟩; replace K := st K hb; clear hb)
    | (go_at_call 8; with_reducible refine (of_any (i0.on K) (by omega)).mono ?_; rintro e wb ⟨⟨q1, rfl, hX⟩, hb⟩; have hA := hp.Blk.new wb [.pointer q1, .int .i64 l0.length] tyH; replace K := st (st K hb) ((Below.refl _ _).alloc (Nat.le_refl _) (.cells #[.pointer q1, .int .i64 l0.length] tyH)); replace hX := hX.on ((Below.refl _ _).alloc (Nat.le_refl _) (.cells #[.pointer q1, .int .i64 l0.length] tyH)); clear hb)
    | (go_at_call 8; with_reducible refine (of_any (i1.on K) (by omega)).mono ?_; rintro e wc ⟨⟨q2, rfl, hY⟩, hb⟩; have hB := hp.Blk.new wc [.pointer q2, .int .i64 l1.length] tyH; replace K := st (st K hb) ((Below.refl _ _).alloc (Nat.le_refl _) (.cells #[.pointer q2, .int .i64 l1.length] tyH)); replace hY := hY.on ((Below.refl _ _).alloc (Nat.le_refl _) (.cells #[.pointer q2, .int .i64 l1.length] tyH)); replace hX := (hX.on hb).on ((Below.refl _ _).alloc (Nat.le_refl _) (.cells #[.pointer q2, .int .i64 l1.length] tyH)); replace hA := (hA.on hb).on ((Below.refl _ _).alloc (Nat.le_refl _) (.cells #[.pointer q2, .int .i64 l1.length] tyH)); clear hb)
    | (go_at_call 8; with_reducible refine (of_any (i2.on K) (by omega)).mono ?_; rintro e wd ⟨⟨q3, rfl, hZ⟩, hb⟩; have hC := hp.Blk.new wd [.pointer q3, .int .i64 l2.length] tyH; replace K := st (st K hb) ((Below.refl _ _).alloc (Nat.le_refl _) (.cells #[.pointer q3, .int .i64 l2.length] tyH)); replace hZ := hZ.on ((Below.refl _ _).alloc (Nat.le_refl _) (.cells #[.pointer q3, .int .i64 l2.length] tyH)); replace hX := (hX.on hb).on ((Below.refl _ _).alloc (Nat.le_refl _) (.cells #[.pointer q3, .int .i64 l2.length] tyH)); replace hA := (hA.on hb).on ((Below.refl _ _).alloc (Nat.le_refl _) (.cells #[.pointer q3, .int .i64 l2.length] tyH)); replace hY := (hY.on hb).on ((Below.refl _ _).alloc (Nat.le_refl _) (.cells #[.pointer q3, .int .i64 l2.length] tyH)); replace hB := (hB.on hb).on ((Below.refl _ _).alloc (Nat.le_refl _) (.cells #[.pointer q3, .int .i64 l2.length] tyH)); clear hb))
  obtain ⟨WR, hWR⟩ : ∃ WR, wd.alloc (.cells #[.pointer q3, .int .i64 l2.length] tyH) = WR := ⟨_, rfl⟩
  rw [hWR] at hX hA hY hB hZ hC K ⊢
  clear hWR
  apply rel.region (C := fun w' => Below WR.heap.size WR w') (X := fun w w' => Below w.heap.size w w') (by kernel_rfl) (by kernel_rfl) (by kernel_rfl) ((Below.refl _ _).drew)
  ((apply rel.walk_val; (focus (intro wq hq hf; (obtain ⟨d0, d1⟩ := ((hA).below hq (hA).lt).cells2); go_wp2; refine ⟨hq, Below.refl _ _, ?_, rfl⟩; (show rel.slot _ _ = _; simp only [rel.slot_lit, List.getD_cons_succ, List.getD_cons_zero]; (first | done | exact rfl)))); (simp only [rel.put_lit, List.set_cons_succ, List.set_cons_zero])))
  ((apply rel.walk_val; (focus (intro wq hq hf; (obtain ⟨d0, d1⟩ := ((hB).below hq (hB).lt).cells2); go_wp2; refine ⟨hq, Below.refl _ _, ?_, rfl⟩; (show rel.slot _ _ = _; simp only [rel.slot_lit, List.getD_cons_succ, List.getD_cons_zero]; (first | done | exact rfl)))); (simp only [rel.put_lit, List.set_cons_succ, List.set_cons_zero])))
  (apply rel.walk_rel (fun u w' => par.IsHeap w' w'.heap.size u (AB)) ⟨_, rfl⟩ (fun u w1 w2 h1 h2 => h2.on h1); (focus (intro wq hq hf; go_wp2_with (go_at_call 10; with_reducible refine (HJ1 _ _ _ (hX.on hq) (hY.on hq)).mono ?_; rintro e w'' ⟨⟨u, rfl, hu⟩, hb⟩); refine ⟨hq.trans (hb.mono hq.size), hb, ?_, rfl⟩; (show par.IsHeap _ _ (rel.slot _ _) _; simp only [rel.slot_lit, List.getD_cons_succ, List.getD_cons_zero]; exact hu))); (intro u wu _ hu; obtain ⟨p1, t_p1, rfl, -⟩ := hu; (simp only [rel.put_lit, List.set_cons_succ, List.set_cons_zero])))
  ((apply rel.walk_val; (focus (intro wq hq hf; (obtain ⟨d0, d1⟩ := ((hC).below hq (hC).lt).cells2); go_wp2; refine ⟨hq, Below.refl _ _, ?_, rfl⟩; (show rel.slot _ _ = _; simp only [rel.slot_lit, List.getD_cons_succ, List.getD_cons_zero]; (first | done | exact rfl)))); (simp only [rel.put_lit, List.set_cons_succ, List.set_cons_zero])))
  (apply rel.walk_rel (fun u w' => par.IsHeap w' w'.heap.size u (ABC)) ⟨_, rfl⟩ (fun u w1 w2 h1 h2 => h2.on h1); (focus (intro wq hq hf; go_wp2_with (go_at_call 10; with_reducible refine (HJ2 _ _ _ (hf.get 0 rfl rfl) (hZ.on hq)).mono ?_; rintro e w'' ⟨⟨u, rfl, hu⟩, hb⟩); refine ⟨hq.trans (hb.mono hq.size), hb, ?_, rfl⟩; (show par.IsHeap _ _ (rel.slot _ _) _; simp only [rel.slot_lit, List.getD_cons_succ, List.getD_cons_zero]; exact hu))); (intro u wu _ hu; obtain ⟨p2, t_p2, rfl, -⟩ := hu; (simp only [rel.put_lit, List.set_cons_succ, List.set_cons_zero])))
  (apply rel.walk_rel (fun u w' => hp.IsInts w' w'.heap.size u (s0)) ⟨_, rfl⟩ (fun u w1 w2 h1 h2 => h2.on h1); (focus (intro wq hq hf; go_wp2_with (go_at_call 12; with_reducible refine (HI1 _ _ (hf.get 0 rfl rfl)).mono ?_; rintro e w'' ⟨⟨u, rfl, hu⟩, hb⟩); refine ⟨hq.trans (hb.mono hq.size), hb, ?_, rfl⟩; (show hp.IsInts _ _ (rel.slot _ _) _; simp only [rel.slot_lit, List.getD_cons_succ, List.getD_cons_zero]; exact hu))); (intro u wu _ hu; obtain ⟨p3, c_p3, rfl, -⟩ := hu; (simp only [rel.put_lit, List.set_cons_succ, List.set_cons_zero])))
  ((apply rel.walk_val; (focus (intro wq hq hf; (obtain ⟨d0, d1⟩ := ((hC).below hq (hC).lt).cells2); go_wp2; refine ⟨hq, Below.refl _ _, ?_, rfl⟩; (show rel.slot _ _ = _; simp only [rel.slot_lit, List.getD_cons_succ, List.getD_cons_zero]; (first | done | exact rfl)))); (simp only [rel.put_lit, List.set_cons_succ, List.set_cons_zero])))
  ((apply rel.walk_val; (focus (intro wq hq hf; (obtain ⟨d0, d1⟩ := ((hA).below hq (hA).lt).cells2); go_wp2; refine ⟨hq, Below.refl _ _, ?_, rfl⟩; (show rel.slot _ _ = _; simp only [rel.slot_lit, List.getD_cons_succ, List.getD_cons_zero]; (first | done | exact rfl)))); (simp only [rel.put_lit, List.set_cons_succ, List.set_cons_zero])))
  (apply rel.walk_rel (fun u w' => par.IsHeap w' w'.heap.size u (CA)) ⟨_, rfl⟩ (fun u w1 w2 h1 h2 => h2.on h1); (focus (intro wq hq hf; go_wp2_with (go_at_call 10; with_reducible refine (HJ3 _ _ _ (hZ.on hq) (hX.on hq)).mono ?_; rintro e w'' ⟨⟨u, rfl, hu⟩, hb⟩); refine ⟨hq.trans (hb.mono hq.size), hb, ?_, rfl⟩; (show par.IsHeap _ _ (rel.slot _ _) _; simp only [rel.slot_lit, List.getD_cons_succ, List.getD_cons_zero]; exact hu))); (intro u wu _ hu; obtain ⟨p4, t_p4, rfl, -⟩ := hu; (simp only [rel.put_lit, List.set_cons_succ, List.set_cons_zero])))
  ((apply rel.walk_val; (focus (intro wq hq hf; (obtain ⟨d0, d1⟩ := ((hB).below hq (hB).lt).cells2); go_wp2; refine ⟨hq, Below.refl _ _, ?_, rfl⟩; (show rel.slot _ _ = _; simp only [rel.slot_lit, List.getD_cons_succ, List.getD_cons_zero]; (first | done | exact rfl)))); (simp only [rel.put_lit, List.set_cons_succ, List.set_cons_zero])))
  (apply rel.walk_rel (fun u w' => par.IsHeap w' w'.heap.size u (CAB)) ⟨_, rfl⟩ (fun u w1 w2 h1 h2 => h2.on h1); (focus (intro wq hq hf; go_wp2_with (go_at_call 10; with_reducible refine (HJ4 _ _ _ (hf.get 0 rfl rfl) (hY.on hq)).mono ?_; rintro e w'' ⟨⟨u, rfl, hu⟩, hb⟩); refine ⟨hq.trans (hb.mono hq.size), hb, ?_, rfl⟩; (show par.IsHeap _ _ (rel.slot _ _) _; simp only [rel.slot_lit, List.getD_cons_succ, List.getD_cons_zero]; exact hu))); (intro u wu _ hu; obtain ⟨p5, t_p5, rfl, -⟩ := hu; (simp only [rel.put_lit, List.set_cons_succ, List.set_cons_zero])))
  (apply rel.walk_rel (fun u w' => hp.IsInts w' w'.heap.size u (s0)) ⟨_, rfl⟩ (fun u w1 w2 h1 h2 => h2.on h1); (focus (intro wq hq hf; go_wp2_with (go_at_call 12; with_reducible refine (HI2 _ _ (hf.get 0 rfl rfl)).mono ?_; rintro e w'' ⟨⟨u, rfl, hu⟩, hb⟩); refine ⟨hq.trans (hb.mono hq.size), hb, ?_, rfl⟩; (show hp.IsInts _ _ (rel.slot _ _) _; simp only [rel.slot_lit, List.getD_cons_succ, List.getD_cons_zero]; exact hu))); (intro u wu _ hu; obtain ⟨p6, c_p6, rfl, -⟩ := hu; (simp only [rel.put_lit, List.set_cons_succ, List.set_cons_zero])))
  (apply rel.walk_val; (focus (intro wq hq hf; go_wp2_with (go_at_call 11; refine (same.ints_eq rfl (hf.get 3 rfl rfl) (hf.get 0 rfl rfl)).mono ?_; rintro e w'' ⟨rfl, hb⟩); refine ⟨hq.trans (hb.mono hq.size), hb, ?_, rfl⟩; (show rel.slot _ _ = _; simp only [rel.slot_lit, List.getD_cons_succ, List.getD_cons_zero]; (first | done | exact rfl)))); (simp only [rel.put_lit, List.set_cons_succ, List.set_cons_zero]))
  (apply rel.walk_val; (focus (intro wq hq hf; go_wp2; refine ⟨hq, Below.refl _ _, ?_, rfl⟩; (show rel.slot _ _ = _; simp only [rel.slot_lit, List.getD_cons_succ, List.getD_cons_zero]; (first | done | exact rfl)))); (simp only [rel.put_lit, List.set_cons_succ, List.set_cons_zero]))
  refine rel.walk_nil ?_
  intro w9 K9 hF
  clear hF
  clear HI1 HI2 HJ2 HJ3 HJ4
  have cA : True := trivial
  have cB : True := trivial
  have eA : True := trivial
  have eB : True := trivial
  ((replace K := st K K9; (try replace hX := hX.on K9); (try replace hA := hA.on K9); (try replace hY := hY.on K9); (try replace hB := hB.on K9); (try replace hZ := hZ.on K9); (try replace hC := hC.on K9); (try replace hu := hu.on K9); (try replace hv := hv.on K9)); clear K9; ((try clear cA eA); obtain ⟨cA, eA⟩ := (hA).cells2); ((try clear cB eB); obtain ⟨cB, eB⟩ := (hB).cells2))
  go_wp2_with (first
    | (go_at_call 10; with_reducible refine (HJ1 _ _ _ hX hY).mono ?_; rintro e we ⟨⟨q4, rfl, hJ⟩, hb⟩; ((replace K := st K hb; (try replace hX := hX.on hb); (try replace hA := hA.on hb); (try replace hY := hY.on hb); (try replace hB := hB.on hb); (try replace hZ := hZ.on hb); (try replace hC := hC.on hb); (try replace hu := hu.on hb); (try replace hv := hv.on hb)); clear hb; ((try clear cA eA); obtain ⟨cA, eA⟩ := (hA).cells2); ((try clear cB eB); obtain ⟨cB, eB⟩ := (hB).cells2)))
    | (go_at_call 16; with_reducible refine (HM1 _ _ hJ).mono ?_; clear HM1 hJ; rintro e wf ⟨rfl, hb⟩; ((replace K := st K hb; (try replace hX := hX.on hb); (try replace hA := hA.on hb); (try replace hY := hY.on hb); (try replace hB := hB.on hb); (try replace hZ := hZ.on hb); (try replace hC := hC.on hb); (try replace hu := hu.on hb); (try replace hv := hv.on hb)); clear hb; ((try clear cA eA); obtain ⟨cA, eA⟩ := (hA).cells2); ((try clear cB eB); obtain ⟨cB, eB⟩ := (hB).cells2)))
    | (go_at_call 10; with_reducible refine (HJ5 _ _ _ hY hX).mono ?_; rintro e wg ⟨⟨q5, rfl, hJ⟩, hb⟩; ((replace K := st K hb; (try replace hX := hX.on hb); (try replace hA := hA.on hb); (try replace hY := hY.on hb); (try replace hB := hB.on hb); (try replace hZ := hZ.on hb); (try replace hC := hC.on hb); (try replace hu := hu.on hb); (try replace hv := hv.on hb)); clear hb; ((try clear cA eA); obtain ⟨cA, eA⟩ := (hA).cells2); ((try clear cB eB); obtain ⟨cB, eB⟩ := (hB).cells2)))
    | (go_at_call 16; with_reducible refine (HM2 _ _ hJ).mono ?_; clear HM2 hJ; rintro e wh ⟨rfl, hb⟩; ((replace K := st K hb; (try replace hX := hX.on hb); (try replace hA := hA.on hb); (try replace hY := hY.on hb); (try replace hB := hB.on hb); (try replace hZ := hZ.on hb); (try replace hC := hC.on hb); (try replace hu := hu.on hb); (try replace hv := hv.on hb)); clear hb; ((try clear cA eA); obtain ⟨cA, eA⟩ := (hA).cells2); ((try clear cB eB); obtain ⟨cB, eB⟩ := (hB).cells2)))
    | (go_at_call 12; with_reducible refine (ints_any hX (by omega)).mono ?_; rintro e wi ⟨⟨u, rfl, hu⟩, hb⟩; ((replace K := st K hb; (try replace hX := hX.on hb); (try replace hA := hA.on hb); (try replace hY := hY.on hb); (try replace hB := hB.on hb); (try replace hZ := hZ.on hb); (try replace hC := hC.on hb); (try replace hu := hu.on hb); (try replace hv := hv.on hb)); clear hb; ((try clear cA eA); obtain ⟨cA, eA⟩ := (hA).cells2); ((try clear cB eB); obtain ⟨cB, eB⟩ := (hB).cells2)))
    | (go_at_call 13; with_reducible refine (same.sorted_any (i0.on K) (by omega)).mono ?_; rintro e wj ⟨⟨u', rfl, hv⟩, hb⟩; ((replace K := st K hb; (try replace hX := hX.on hb); (try replace hA := hA.on hb); (try replace hY := hY.on hb); (try replace hB := hB.on hb); (try replace hZ := hZ.on hb); (try replace hC := hC.on hb); (try replace hu := hu.on hb); (try replace hv := hv.on hb)); clear hb; ((try clear cA eA); obtain ⟨cA, eA⟩ := (hA).cells2); ((try clear cB eB); obtain ⟨cB, eB⟩ := (hB).cells2)))
    | (go_at_call 11; with_reducible refine (same.ints_eq rfl hu hv).mono ?_; rintro e wk ⟨rfl, hb⟩; ((replace K := st K hb; (try replace hX := hX.on hb); (try replace hA := hA.on hb); (try replace hY := hY.on hb); (try replace hB := hB.on hb); (try replace hZ := hZ.on hb); (try replace hC := hC.on hb); (try replace hu := hu.on hb); (try replace hv := hv.on hb)); clear hb; ((try clear cA eA); obtain ⟨cA, eA⟩ := (hA).cells2); ((try clear cB eB); obtain ⟨cB, eB⟩ := (hB).cells2))))
  go_ret
  refine ⟨?_, K⟩
  have he : (h == decide ((0 : Int) < (l0.length : Int) + (l1.length : Int))) = true := by
    rcases hh with ⟨rfl, h1⟩ | ⟨rfl, h1⟩
    · have : (0 : Int) < (l0.length : Int) + (l1.length : Int) := by omega
      simp [this]
    · have : ¬ (0 : Int) < (l0.length : Int) + (l1.length : Int) := by omega
      simp [this]
  exact same.ret_bool he

theorem walk (v0 : Value) (l0 : List Int) (v1 : Value) (l1 : List Int) (v2 : Value) (l2 : List Int) (w : World) (i0 : hp.IsInts w w.heap.size v0 l0) (i1 : hp.IsInts w w.heap.size v1 l1) (i2 : hp.IsInts w w.heap.size v2 l2) (hbd : l0.length + l1.length + l2.length ≤ 1048576) :
    Calls Try.prog 4 #[v0, v1, v2] w fun e w' => e = .returned (.bool true) ∧ Below w.heap.size w w' := by
  have hl := srt_len (l0 ++ l1)
  rw [List.length_append] at hl
  rcases hs : srt (l0 ++ l1) with _ | ⟨z, tl⟩
  · rw [hs] at hl
    have h0 : l0.length + l1.length = 0 := by simpa using hl.symm
    refine walk_of v0 l0 v1 l1 v2 l2 w i0 i1 i2 hbd 0 false (.inr ⟨rfl, h0⟩) ?_
    intro W u l hp hu
    have : l = [] := List.eq_nil_of_length_eq_zero (by rw [hp.length_eq, List.length_append]; exact h0)
    subst this
    exact min_nil hu
  · rw [hs] at hl
    have h0 : 0 < l0.length + l1.length := by rw [← hl]; simp
    refine walk_of v0 l0 v1 l1 v2 l2 w i0 i1 i2 hbd z true (.inl ⟨rfl, h0⟩) ?_
    intro W u l hp hu
    exact min_cons hu ((srt_eq hp).trans hs)
end Go.Proofs.Ytnfoadhhgonfkaa.pairJoins
