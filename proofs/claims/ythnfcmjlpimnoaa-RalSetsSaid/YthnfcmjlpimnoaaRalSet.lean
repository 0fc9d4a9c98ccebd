/- Package ral: Set. -/
import Derived.Test.YthnfcmjlpimnoaaRalAt
namespace Go.Proofs.Ythnfcmjlpimnoaa.ral
open Go Go.RowKit Go.Proofs.Ythnfcmjlpimnoaa.sk

/-- a pointer to a complete tree -/
def IsN (w : World) (k : Nat) (u : Value) (xs : List Int) : Prop := ∃ p, u = .pointer p ∧ Nod w.heap.size w k p xs
theorem IsN.on {w w' : World} {k : Nat} {u : Value} {xs : List Int} (h : IsN w k u xs) (hb : Below w.heap.size w w') : IsN w' k u xs := by
  obtain ⟨p, hu, hn⟩ := h
  exact ⟨p, hu, hn.grow hb hb.size⟩
/-- a pointer to trees -/
def IsT (w : World) (u : Value) (ts : List (Nat × List Int)) : Prop := ∃ p, u = .pointer p ∧ Trs w.heap.size w p ts
theorem IsT.on {w w' : World} {u : Value} {ts : List (Nat × List Int)} (h : IsT w u ts) (hb : Below w.heap.size w w') : IsT w' u ts := by
  obtain ⟨p, hu, hn⟩ := h
  exact ⟨p, hu, hn.grow hb hb.size⟩

theorem IsN.mk {W : World} {g m : Nat} {n1 n2 : Option Addr} {z : Int} {us vs xs : List Int} (hk : hp.Blk W g 53 [.int .i64 z, .pointer n1, .pointer n2]) (h1 : Nod W.heap.size W m n1 us) (h2 : Nod W.heap.size W m n2 vs) (hx : xs = z :: (us ++ vs)) : IsN W (m + 1) (.pointer (some ⟨g, 0, none⟩)) xs :=
  ⟨_, rfl, g, n1, n2, z, us, vs, rfl, hk.lt, hk, hx, h1, h2⟩

set_option maxHeartbeats 4000000 in
theorem node_set (x : Int) : ∀ (k i : Nat) (p : Option Addr) (xs : List Int) (w : World), Nod w.heap.size w k p xs → i < xs.length → xs.length < 4611686018427387904 →
    Calls Try.prog 27 #[.pointer p, .int .i64 i, .int .i64 (dg k), .int .i64 x] w fun e w' => (∃ u, e = .returned u ∧ IsN w' k u (xs.set i x)) ∧ Below w.heap.size w w' := by
  intro k
  induction k with
  | zero =>
    rintro i p xs w ⟨-, rfl⟩ hi
    simp at hi
  | succ m ih =>
    intro i p ys w hn hj hbd
    have hln := hn.len
    obtain ⟨b, n1, n2, y, us, vs, rfl, hb, hk, rfl, h1, h2⟩ := hn
    have hl1 := h1.len
    have hl2 := h2.len
    have c0 := hk.cell 0
    have c1 := hk.cell 1
    have c2 := hk.cell 2
    simp only [List.getElem?_cons_zero, List.getElem?_cons_succ] at c0 c1 c2
    have hdk := dg_succ m
    have hd0 := dg_nonneg m
    have hlt : ((y :: (us ++ vs)).length : Int) = 1 + us.length + vs.length := by simp; omega
    have ihu := fun j (hj : j < us.length) (W : World) (hW : Below w.heap.size w W) => ih j n1 us W (h1.grow hW hW.size) hj (by omega)
    have ihv := fun j (hj : j < vs.length) (W : World) (hW : Below w.heap.size w W) => ih j n2 vs W (h2.grow hW hW.size) hj (by omega)
    clear ih
    obtain ⟨d, hd⟩ : ∃ d : Int, dg m = d := ⟨_, rfl⟩
    rw [hd] at hdk hd0 hl1 hl2 ihu ihv
    obtain ⟨D, hD⟩ : ∃ D : Int, dg (m + 1) = D := ⟨_, rfl⟩
    rw [hD] at hdk hln ⊢
    have hD2 : D / 2 = d := by omega
    have hDl : D < 4611686018427387904 := by omega
    have hDn : 0 < D := by omega
    replace hdk := Lib.hid hdk
    rcases i with _ | j
    · clear ihu ihv hk hj
      go_enter Try.func27, Try.ntmps27
      go_wp2_with fail
      (refine reg.region_tail_drew 10 (by kernel_rfl) (by kernel_rfl) ?_; simp only [List.take_succ_cons, List.take_zero, List.drop_succ_cons, List.drop_zero]; (repeat (go_big_quiet_step ((fail)))); refine wpQuiet_nil ?_; intro _ hw'; obtain ⟨nq, hw''⟩ := hw'; subst hw'')
      go_wp2_with fail
      go_ret
      have hb0 : Below w.heap.size w ((w.drewN nq).alloc (.cells #[.int .i64 x, .pointer n1, .pointer n2] 53)) := by
        ((repeat' (first | with_reducible exact Below.refl _ _ | with_reducible apply Below.setCell | with_reducible apply below_drewN | with_reducible apply Below.drew | with_reducible apply Below.alloc | with_reducible refine Below.trans ?_ (Below.mono (by assumption) ?_))) <;> (first | (simp; done) | (simp; omega) | omega))
      exact ⟨⟨_, rfl, IsN.mk (hp.Blk.newAt (cs := [.int .i64 x, .pointer n1, .pointer n2]) (by simp)) (h1.grow hb0 hb0.size) (h2.grow hb0 hb0.size) rfl⟩, hb0⟩
    · by_cases hja : j < us.length
      · have hjd : (j : Int) < d := by omega
        have hjd2 : (j : Int) + 1 ≤ d := by omega
        have hcl := ihu j hja
        clear ihu ihv hk hj
        go_enter Try.func27, Try.ntmps27
        go_wp2_with fail
        rw [hD2]
        apply rel.region_tail (C := fun w' => Below w.heap.size w w') (X := fun w w' => Below w.heap.size w w') 17 (by kernel_rfl) (by kernel_rfl) (by kernel_rfl) (by kernel_rfl) ((Below.refl _ _).drew)
        (apply rel.walk_val; (focus (intro wq hq hf; go_wp2; refine ⟨hq, Below.refl _ _, ?_, rfl⟩; (show rel.slot _ _ = _; simp only [rel.slot_lit, List.getD_cons_succ, List.getD_cons_zero]; (first | done | exact rfl)))); (simp only [rel.put_lit, List.set_cons_succ, List.set_cons_zero]))
        (apply rel.walk_val; (focus (intro wq hq hf; go_wp2; refine ⟨hq, Below.refl _ _, ?_, rfl⟩; (show rel.slot _ _ = _; simp only [rel.slot_lit, List.getD_cons_succ, List.getD_cons_zero]; (first | done | exact rfl)))); (simp only [rel.put_lit, List.set_cons_succ, List.set_cons_zero]))
        (apply rel.walk_val; (focus (intro wq hq hf; go_wp2; refine ⟨hq, Below.refl _ _, ?_, rfl⟩; (show rel.slot _ _ = _; simp only [rel.slot_lit, List.getD_cons_succ, List.getD_cons_zero]; (first | done | exact rfl)))); (simp only [rel.put_lit, List.set_cons_succ, List.set_cons_zero]))
        ((apply rel.walk_val; (focus (intro wq hq hf; (have d0 := (hq.cell (p := ⟨b, 0, none⟩) hb).trans c0); go_wp2; refine ⟨hq, Below.refl _ _, ?_, rfl⟩; (show rel.slot _ _ = _; simp only [rel.slot_lit, List.getD_cons_succ, List.getD_cons_zero]; (first | done | exact rfl)))); (simp only [rel.put_lit, List.set_cons_succ, List.set_cons_zero])))
        (apply rel.walk_val; (focus (intro wq hq hf; go_wp2; refine ⟨hq, Below.refl _ _, ?_, rfl⟩; (show rel.slot _ _ = _; simp only [rel.slot_lit, List.getD_cons_succ, List.getD_cons_zero]; (first | done | exact rfl)))); (simp only [rel.put_lit, List.set_cons_succ, List.set_cons_zero]))
        (apply rel.walk_val; (focus (intro wq hq hf; go_wp2; refine ⟨hq, Below.refl _ _, ?_, rfl⟩; (show rel.slot _ _ = _; simp only [rel.slot_lit, List.getD_cons_succ, List.getD_cons_zero]; (first | done | exact rfl)))); (simp only [rel.put_lit, List.set_cons_succ, List.set_cons_zero]))
        (apply rel.walk_val; (focus (intro wq hq hf; go_wp2; refine ⟨hq, Below.refl _ _, ?_, rfl⟩; (show rel.slot _ _ = _; simp only [rel.slot_lit, List.getD_cons_succ, List.getD_cons_zero]; (first | done | exact rfl)))); (simp only [rel.put_lit, List.set_cons_succ, List.set_cons_zero]))
        ((apply rel.walk_val; (focus (intro wq hq hf; (have d0 := (hq.cell (p := ⟨b, 1, none⟩) hb).trans c1); go_wp2; refine ⟨hq, Below.refl _ _, ?_, rfl⟩; (show rel.slot _ _ = _; simp only [rel.slot_lit, List.getD_cons_succ, List.getD_cons_zero]; (first | done | exact rfl)))); (simp only [rel.put_lit, List.set_cons_succ, List.set_cons_zero])))
        (apply rel.walk_val; (focus (intro wq hq hf; go_wp2; refine ⟨hq, Below.refl _ _, ?_, rfl⟩; (show rel.slot _ _ = _; simp only [rel.slot_lit, List.getD_cons_succ, List.getD_cons_zero]; (first | done | exact rfl)))); (simp only [rel.put_lit, List.set_cons_succ, List.set_cons_zero]))
        (apply rel.walk_val; (focus (intro wq hq hf; go_wp2; refine ⟨hq, Below.refl _ _, ?_, rfl⟩; (show rel.slot _ _ = _; simp only [rel.slot_lit, List.getD_cons_succ, List.getD_cons_zero]; (first | done | exact rfl)))); (simp only [rel.put_lit, List.set_cons_succ, List.set_cons_zero]))
        (apply rel.walk_val; (focus (intro wq hq hf; go_wp2; refine ⟨hq, Below.refl _ _, ?_, rfl⟩; (show rel.slot _ _ = _; simp only [rel.slot_lit, List.getD_cons_succ, List.getD_cons_zero]; (first | done | exact rfl)))); (simp only [rel.put_lit, List.set_cons_succ, List.set_cons_zero]))
        (apply rel.walk_val; (focus (intro wq hq hf; go_wp2; refine ⟨hq, Below.refl _ _, ?_, rfl⟩; (show rel.slot _ _ = _; simp only [rel.slot_lit, List.getD_cons_succ, List.getD_cons_zero]; (first | done | exact rfl)))); (simp only [rel.put_lit, List.set_cons_succ, List.set_cons_zero]))
        (apply rel.walk_rel (fun u w' => ral.IsN w' (m) u (us.set j x)) ⟨_, rfl⟩ (fun u w1 w2 h1 h2 => h2.on h1); (focus (intro wq hq hf; go_wp2_with (go_at_call 27; refine (hcl _ hq).mono ?_; rintro e w'' ⟨⟨u, rfl, hu⟩, hb⟩); refine ⟨hq.trans (hb.mono hq.size), hb, ?_, rfl⟩; (show ral.IsN _ _ (rel.slot _ _) _; simp only [rel.slot_lit, List.getD_cons_succ, List.getD_cons_zero]; exact hu))); (intro u wu _ hu; obtain ⟨pu, rfl, -⟩ := hu; (simp only [rel.put_lit, List.set_cons_succ, List.set_cons_zero])))
        (apply rel.walk_val; (focus (intro wq hq hf; go_wp2; refine ⟨hq, Below.refl _ _, ?_, rfl⟩; (show rel.slot _ _ = _; simp only [rel.slot_lit, List.getD_cons_succ, List.getD_cons_zero]; (first | done | exact rfl)))); (simp only [rel.put_lit, List.set_cons_succ, List.set_cons_zero]))
        (apply rel.walk_val; (focus (intro wq hq hf; go_wp2; refine ⟨hq, Below.refl _ _, ?_, rfl⟩; (show rel.slot _ _ = _; simp only [rel.slot_lit, List.getD_cons_succ, List.getD_cons_zero]; (first | done | exact rfl)))); (simp only [rel.put_lit, List.set_cons_succ, List.set_cons_zero]))
        (apply rel.walk_val; (focus (intro wq hq hf; go_wp2; refine ⟨hq, Below.refl _ _, ?_, rfl⟩; (show rel.slot _ _ = _; simp only [rel.slot_lit, List.getD_cons_succ, List.getD_cons_zero]; (first | done | exact rfl)))); (simp only [rel.put_lit, List.set_cons_succ, List.set_cons_zero]))
        ((apply rel.walk_val; (focus (intro wq hq hf; (have d0 := (hq.cell (p := ⟨b, 2, none⟩) hb).trans c2); go_wp2; refine ⟨hq, Below.refl _ _, ?_, rfl⟩; (show rel.slot _ _ = _; simp only [rel.slot_lit, List.getD_cons_succ, List.getD_cons_zero]; (first | done | exact rfl)))); (simp only [rel.put_lit, List.set_cons_succ, List.set_cons_zero])))
        refine rel.walk_nil ?_
        intro w9 K9 hF
        obtain ⟨pu', he, hu⟩ : IsN w9 m (.pointer pu) (us.set j x) := hF _ (List.mem_cons_self ..)
        obtain rfl : pu = pu' := by simpa using he
        simp only [List.drop_succ_cons, List.drop_zero]
        go_wp2
        go_ret
        have hbz : Below w9.heap.size w9 (w9.alloc (.cells #[.int .i64 y, .pointer pu, .pointer n2] 53)) := by
          ((repeat' (first | with_reducible exact Below.refl _ _ | with_reducible apply Below.setCell | with_reducible apply below_drewN | with_reducible apply Below.drew | with_reducible apply Below.alloc | with_reducible refine Below.trans ?_ (Below.mono (by assumption) ?_))) <;> (first | (simp; done) | (simp; omega) | omega))
        have hb0 := K9.trans (hbz.mono K9.size)
        refine ⟨⟨_, rfl, IsN.mk (hp.Blk.newAt (cs := [.int .i64 y, .pointer pu, .pointer n2]) (by simp)) (hu.grow hbz hbz.size) (h2.grow hb0 hb0.size) ?_⟩, hb0⟩
        rw [List.set_cons_succ, List.set_append_left _ _ hja]
      · obtain ⟨n, rfl⟩ : ∃ n : Nat, j = us.length + n := ⟨j - us.length, by omega⟩
        have hjv : n < vs.length := by simp at hj; omega
        have hjd : ¬ (((us.length + n : Nat) : Int) < d) := by omega
        have hjd3 : ¬ (((us.length + n : Nat) : Int) + 1 ≤ d) := by omega
        obtain ⟨q, hq0⟩ : ∃ q : Nat, us.length + n = q := ⟨_, rfl⟩
        obtain ⟨I, hI⟩ : ∃ I : Int, ((q + 1 : Nat) : Int) = I := ⟨_, rfl⟩
        have hqn : I - 1 - d = n := by omega
        have hI0 : 0 < I := by omega
        have hIn : (I == 0) = false := beq_false_of_ne (by omega)
        have hId : d < I := by omega
        have hIl : I < 4611686018427387904 := by omega
        have hdl : d < 4611686018427387904 := by omega
        have hset : Hid ((y :: (us ++ vs)).set (q + 1) x = y :: (us ++ vs.set n x)) := by
          show _ = _
          rw [← hq0, List.set_cons_succ, List.set_append_right _ _ (by omega)]
          simp
        rw [hq0, hI]
        have hcl := ihv n hjv
        clear ihu ihv hk hj hq0 hja hjd hjd3 hl1 hl2 hlt hln hbd hI
        replace hqn := Lib.hid hqn
        go_enter Try.func27, Try.ntmps27
        go_wp2_with fail
        rw [hD2]
        apply rel.region_tail (C := fun w' => Below w.heap.size w w') (X := fun w w' => Below w.heap.size w w') 19 (by kernel_rfl) (by kernel_rfl) (by kernel_rfl) (by kernel_rfl) ((Below.refl _ _).drew)
        (apply rel.walk_val; (focus (intro wq hq hf; go_wp2; refine ⟨hq, Below.refl _ _, ?_, rfl⟩; (show rel.slot _ _ = _; simp only [rel.slot_lit, List.getD_cons_succ, List.getD_cons_zero]; (first | done | exact rfl)))); (simp only [rel.put_lit, List.set_cons_succ, List.set_cons_zero]))
        (apply rel.walk_val; (focus (intro wq hq hf; go_wp2; refine ⟨hq, Below.refl _ _, ?_, rfl⟩; (show rel.slot _ _ = _; simp only [rel.slot_lit, List.getD_cons_succ, List.getD_cons_zero]; (first | done | exact rfl)))); (simp only [rel.put_lit, List.set_cons_succ, List.set_cons_zero]))
        (apply rel.walk_val; (focus (intro wq hq hf; go_wp2; refine ⟨hq, Below.refl _ _, ?_, rfl⟩; (show rel.slot _ _ = _; simp only [rel.slot_lit, List.getD_cons_succ, List.getD_cons_zero]; (first | done | exact rfl)))); (simp only [rel.put_lit, List.set_cons_succ, List.set_cons_zero]))
        ((apply rel.walk_val; (focus (intro wq hq hf; (have d0 := (hq.cell (p := ⟨b, 0, none⟩) hb).trans c0); go_wp2; refine ⟨hq, Below.refl _ _, ?_, rfl⟩; (show rel.slot _ _ = _; simp only [rel.slot_lit, List.getD_cons_succ, List.getD_cons_zero]; (first | done | exact rfl)))); (simp only [rel.put_lit, List.set_cons_succ, List.set_cons_zero])))
        (apply rel.walk_val; (focus (intro wq hq hf; go_wp2; refine ⟨hq, Below.refl _ _, ?_, rfl⟩; (show rel.slot _ _ = _; simp only [rel.slot_lit, List.getD_cons_succ, List.getD_cons_zero]; (first | done | exact rfl)))); (simp only [rel.put_lit, List.set_cons_succ, List.set_cons_zero]))
        (apply rel.walk_val; (focus (intro wq hq hf; go_wp2; refine ⟨hq, Below.refl _ _, ?_, rfl⟩; (show rel.slot _ _ = _; simp only [rel.slot_lit, List.getD_cons_succ, List.getD_cons_zero]; (first | done | exact rfl)))); (simp only [rel.put_lit, List.set_cons_succ, List.set_cons_zero]))
        (apply rel.walk_val; (focus (intro wq hq hf; go_wp2; refine ⟨hq, Below.refl _ _, ?_, rfl⟩; (show rel.slot _ _ = _; simp only [rel.slot_lit, List.getD_cons_succ, List.getD_cons_zero]; (first | done | exact rfl)))); (simp only [rel.put_lit, List.set_cons_succ, List.set_cons_zero]))
        ((apply rel.walk_val; (focus (intro wq hq hf; (have d0 := (hq.cell (p := ⟨b, 1, none⟩) hb).trans c1); go_wp2; refine ⟨hq, Below.refl _ _, ?_, rfl⟩; (show rel.slot _ _ = _; simp only [rel.slot_lit, List.getD_cons_succ, List.getD_cons_zero]; (first | done | exact rfl)))); (simp only [rel.put_lit, List.set_cons_succ, List.set_cons_zero])))
        (apply rel.walk_val; (focus (intro wq hq hf; go_wp2; refine ⟨hq, Below.refl _ _, ?_, rfl⟩; (show rel.slot _ _ = _; simp only [rel.slot_lit, List.getD_cons_succ, List.getD_cons_zero]; (first | done | exact rfl)))); (simp only [rel.put_lit, List.set_cons_succ, List.set_cons_zero]))
        (apply rel.walk_val; (focus (intro wq hq hf; go_wp2; refine ⟨hq, Below.refl _ _, ?_, rfl⟩; (show rel.slot _ _ = _; simp only [rel.slot_lit, List.getD_cons_succ, List.getD_cons_zero]; (first | done | exact rfl)))); (simp only [rel.put_lit, List.set_cons_succ, List.set_cons_zero]))
        (apply rel.walk_val; (focus (intro wq hq hf; go_wp2; refine ⟨hq, Below.refl _ _, ?_, rfl⟩; (show rel.slot _ _ = _; simp only [rel.slot_lit, List.getD_cons_succ, List.getD_cons_zero]; (first | done | exact rfl)))); (simp only [rel.put_lit, List.set_cons_succ, List.set_cons_zero]))
        ((apply rel.walk_val; (focus (intro wq hq hf; (have d0 := (hq.cell (p := ⟨b, 2, none⟩) hb).trans c2); go_wp2; refine ⟨hq, Below.refl _ _, ?_, rfl⟩; (show rel.slot _ _ = _; simp only [rel.slot_lit, List.getD_cons_succ, List.getD_cons_zero]; (first | done | exact rfl)))); (simp only [rel.put_lit, List.set_cons_succ, List.set_cons_zero])))
        (apply rel.walk_val; (focus (intro wq hq hf; go_wp2; refine ⟨hq, Below.refl _ _, ?_, rfl⟩; (show rel.slot _ _ = _; simp only [rel.slot_lit, List.getD_cons_succ, List.getD_cons_zero]; (first | done | exact rfl)))); (simp only [rel.put_lit, List.set_cons_succ, List.set_cons_zero]))
        (apply rel.walk_val; (focus (intro wq hq hf; go_wp2; refine ⟨hq, Below.refl _ _, ?_, rfl⟩; (show rel.slot _ _ = _; simp only [rel.slot_lit, List.getD_cons_succ, List.getD_cons_zero]; (first | done | exact rfl)))); (simp only [rel.put_lit, List.set_cons_succ, List.set_cons_zero]))
        (apply rel.walk_val; (focus (intro wq hq hf; go_wp2; refine ⟨hq, Below.refl _ _, ?_, rfl⟩; (show rel.slot _ _ = _; simp only [rel.slot_lit, List.getD_cons_succ, List.getD_cons_zero]; (first | done | exact rfl)))); (simp only [rel.put_lit, List.set_cons_succ, List.set_cons_zero]))
        (apply rel.walk_val; (focus (intro wq hq hf; go_wp2; refine ⟨hq, Below.refl _ _, ?_, rfl⟩; (show rel.slot _ _ = _; simp only [rel.slot_lit, List.getD_cons_succ, List.getD_cons_zero]; (first | done | exact rfl)))); (simp only [rel.put_lit, List.set_cons_succ, List.set_cons_zero]))
        (apply rel.walk_val; (focus (intro wq hq hf; go_wp2; refine ⟨hq, Below.refl _ _, ?_, rfl⟩; (show rel.slot _ _ = _; simp only [rel.slot_lit, List.getD_cons_succ, List.getD_cons_zero]; (first | done | exact rfl)))); (simp only [rel.put_lit, List.set_cons_succ, List.set_cons_zero]))
        (apply rel.walk_val; (focus (intro wq hq hf; go_wp2; refine ⟨hq, Below.refl _ _, ?_, rfl⟩; (show rel.slot _ _ = _; simp only [rel.slot_lit, List.getD_cons_succ, List.getD_cons_zero]; (first | done | exact rfl)))); (simp only [rel.put_lit, List.set_cons_succ, List.set_cons_zero]))
        rw [hqn.out]
        (apply rel.walk_rel (fun u w' => ral.IsN w' (m) u (vs.set n x)) ⟨_, rfl⟩ (fun u w1 w2 h1 h2 => h2.on h1); (focus (intro wq hq hf; go_wp2_with (go_at_call 27; refine (hcl _ hq).mono ?_; rintro e w'' ⟨⟨u, rfl, hu⟩, hb⟩); refine ⟨hq.trans (hb.mono hq.size), hb, ?_, rfl⟩; (show ral.IsN _ _ (rel.slot _ _) _; simp only [rel.slot_lit, List.getD_cons_succ, List.getD_cons_zero]; exact hu))); (intro u wu _ hu; obtain ⟨pu, rfl, -⟩ := hu; (simp only [rel.put_lit, List.set_cons_succ, List.set_cons_zero])))
        refine rel.walk_nil ?_
        intro w9 K9 hF
        obtain ⟨pu', he, hu⟩ : IsN w9 m (.pointer pu) (vs.set n x) := hF _ (List.mem_cons_self ..)
        obtain rfl : pu = pu' := by simpa using he
        simp only [List.drop_succ_cons, List.drop_zero]
        go_wp2
        go_ret
        have hbz : Below w9.heap.size w9 (w9.alloc (.cells #[.int .i64 y, .pointer n1, .pointer pu] 53)) := by
          ((repeat' (first | with_reducible exact Below.refl _ _ | with_reducible apply Below.setCell | with_reducible apply below_drewN | with_reducible apply Below.drew | with_reducible apply Below.alloc | with_reducible refine Below.trans ?_ (Below.mono (by assumption) ?_))) <;> (first | (simp; done) | (simp; omega) | omega))
        have hb0 := K9.trans (hbz.mono K9.size)
        exact ⟨⟨_, rfl, IsN.mk (hp.Blk.newAt (cs := [.int .i64 y, .pointer n1, .pointer pu]) (by simp)) (h1.grow hb0 hb0.size) (hu.grow hbz hbz.size) hset.out⟩, hb0⟩
/-- the trees with another number at a place -/
def put (x : Int) : List (Nat × List Int) → Nat → List (Nat × List Int)
  | [], _ => []
  | (k, xs) :: us, i => if i < xs.length then (k, xs.set i x) :: us else (k, xs) :: put x us (i - xs.length)
theorem put_map (x : Int) : ∀ (ts : List (Nat × List Int)) (i : Nat), (put x ts i).map Prod.fst = ts.map Prod.fst
  | [], _ => rfl
  | (k, xs) :: us, i => by
    unfold put
    split
    · rfl
    · simp [put_map x us]
theorem put_flat (x : Int) : ∀ (ts : List (Nat × List Int)) (i : Nat), flat (put x ts i) = (flat ts).set i x
  | [], _ => rfl
  | (k, xs) :: us, i => by
    unfold put
    split
    · rename_i h
      rw [flat_cons, flat_cons, List.set_append_left _ _ h]
    · rename_i h
      rw [flat_cons, flat_cons, List.set_append_right _ _ (by omega), put_flat x us]

theorem IsT.mk {W : World} {g k : Nat} {n1 n2 : Option Addr} {xs : List Int} {us : List (Nat × List Int)} (hk : hp.Blk W g 50 [.int .i64 (dg (k + 1)), .pointer n1, .pointer n2]) (h1 : Nod W.heap.size W (k + 1) n1 xs) (h2 : Trs W.heap.size W n2 us) : IsT W (.pointer (some ⟨g, 0, none⟩)) ((k, xs) :: us) :=
  ⟨_, rfl, g, n1, n2, rfl, hk.lt, hk, h1, h2⟩

set_option maxHeartbeats 4000000 in
theorem tree_set (x : Int) : ∀ (ts : List (Nat × List Int)) (i : Nat) (p : Option Addr) (w : World), Trs w.heap.size w p ts → i < (flat ts).length → (flat ts).length < 4611686018427387904 →
    Calls Try.prog 24 #[.pointer p, .int .i64 i, .int .i64 x] w fun e w' => (∃ u, e = .returned u ∧ IsT w' u (put x ts i)) ∧ Below w.heap.size w w' := by
  intro ts
  induction ts with
  | nil =>
    intro i p w h hi
    simp [flat_nil] at hi
  | cons t us ih =>
    obtain ⟨k, xs⟩ := t
    intro i p w h hi hbd
    have hln := h.len
    obtain ⟨b, r, q, rfl, hb, hk, hr, hT⟩ := h
    rw [flat_cons] at hi hbd hln
    rw [List.length_append] at hi hbd hln
    have hxl := hr.len
    have c0 := hk.cell 0
    have c1 := hk.cell 1
    have c2 := hk.cell 2
    simp only [List.getElem?_cons_zero, List.getElem?_cons_succ] at c0 c1 c2
    have hd := dg_pos k
    have hcl1 := fun (hix : i < xs.length) (W : World) (hW : Below w.heap.size w W) => node_set x (k + 1) i r xs W (hr.grow hW hW.size) hix (by omega)
    have hcl2 := fun (j : Nat) (hj : j < (flat us).length) (W : World) (hW : Below w.heap.size w W) => ih j q W (hT.grow hW hW.size) hj (by omega)
    clear ih
    obtain ⟨D, hD⟩ : ∃ D : Int, dg (k + 1) = D := ⟨_, rfl⟩
    rw [hD] at c0 hln hxl hd hcl1
    obtain ⟨I, hI⟩ : ∃ I : Int, (i : Int) = I := ⟨_, rfl⟩
    have hmk : ∀ (W : World) (g : Nat) (n1 n2 : Option Addr) (xs : List Int) (us : List (Nat × List Int)), hp.Blk W g 50 [.int .i64 D, .pointer n1, .pointer n2] → Nod W.heap.size W (k + 1) n1 xs → Trs W.heap.size W n2 us → IsT W (.pointer (some ⟨g, 0, none⟩)) ((k, xs) :: us) := fun _ _ _ _ _ _ h1 h2 h3 => IsT.mk (by rw [hD]; exact h1) h2 h3
    replace hmk := Lib.hid hmk
    by_cases hix : i < xs.length
    · have hput : Hid (put x ((k, xs) :: us) i = (k, xs.set i x) :: us) := by
        show _ = _
        rw [put, if_pos hix]
      have hcl := hcl1 hix
      have hID : I < D := by omega
      rw [hI] at hcl ⊢
      clear hcl1 hcl2 hk hi hbd hln hxl hD hI hix
      go_enter Try.func24, Try.ntmps24
      go_wp2_with fail
      apply rel.region_tail (C := fun w' => Below w.heap.size w w') (X := fun w w' => Below w.heap.size w w') 19 (by kernel_rfl) (by kernel_rfl) (by kernel_rfl) (by kernel_rfl) ((Below.refl _ _).drew)
      (apply rel.walk_val; (focus (intro wq hq hf; go_wp2; refine ⟨hq, Below.refl _ _, ?_, rfl⟩; (show rel.slot _ _ = _; simp only [rel.slot_lit, List.getD_cons_succ, List.getD_cons_zero]; (first | done | exact rfl)))); (simp only [rel.put_lit, List.set_cons_succ, List.set_cons_zero]))
      (apply rel.walk_val; (focus (intro wq hq hf; go_wp2; refine ⟨hq, Below.refl _ _, ?_, rfl⟩; (show rel.slot _ _ = _; simp only [rel.slot_lit, List.getD_cons_succ, List.getD_cons_zero]; (first | done | exact rfl)))); (simp only [rel.put_lit, List.set_cons_succ, List.set_cons_zero]))
      (apply rel.walk_val; (focus (intro wq hq hf; go_wp2; refine ⟨hq, Below.refl _ _, ?_, rfl⟩; (show rel.slot _ _ = _; simp only [rel.slot_lit, List.getD_cons_succ, List.getD_cons_zero]; (first | done | exact rfl)))); (simp only [rel.put_lit, List.set_cons_succ, List.set_cons_zero]))
      ((apply rel.walk_val; (focus (intro wq hq hf; (have d0 := (hq.cell (p := ⟨b, 0, none⟩) hb).trans c0); go_wp2; refine ⟨hq, Below.refl _ _, ?_, rfl⟩; (show rel.slot _ _ = _; simp only [rel.slot_lit, List.getD_cons_succ, List.getD_cons_zero]; (first | done | exact rfl)))); (simp only [rel.put_lit, List.set_cons_succ, List.set_cons_zero])))
      (apply rel.walk_val; (focus (intro wq hq hf; go_wp2; refine ⟨hq, Below.refl _ _, ?_, rfl⟩; (show rel.slot _ _ = _; simp only [rel.slot_lit, List.getD_cons_succ, List.getD_cons_zero]; (first | done | exact rfl)))); (simp only [rel.put_lit, List.set_cons_succ, List.set_cons_zero]))
      (apply rel.walk_val; (focus (intro wq hq hf; go_wp2; refine ⟨hq, Below.refl _ _, ?_, rfl⟩; (show rel.slot _ _ = _; simp only [rel.slot_lit, List.getD_cons_succ, List.getD_cons_zero]; (first | done | exact rfl)))); (simp only [rel.put_lit, List.set_cons_succ, List.set_cons_zero]))
      (apply rel.walk_val; (focus (intro wq hq hf; go_wp2; refine ⟨hq, Below.refl _ _, ?_, rfl⟩; (show rel.slot _ _ = _; simp only [rel.slot_lit, List.getD_cons_succ, List.getD_cons_zero]; (first | done | exact rfl)))); (simp only [rel.put_lit, List.set_cons_succ, List.set_cons_zero]))
      ((apply rel.walk_val; (focus (intro wq hq hf; (have d0 := (hq.cell (p := ⟨b, 1, none⟩) hb).trans c1); go_wp2; refine ⟨hq, Below.refl _ _, ?_, rfl⟩; (show rel.slot _ _ = _; simp only [rel.slot_lit, List.getD_cons_succ, List.getD_cons_zero]; (first | done | exact rfl)))); (simp only [rel.put_lit, List.set_cons_succ, List.set_cons_zero])))
      (apply rel.walk_val; (focus (intro wq hq hf; go_wp2; refine ⟨hq, Below.refl _ _, ?_, rfl⟩; (show rel.slot _ _ = _; simp only [rel.slot_lit, List.getD_cons_succ, List.getD_cons_zero]; (first | done | exact rfl)))); (simp only [rel.put_lit, List.set_cons_succ, List.set_cons_zero]))
      (apply rel.walk_val; (focus (intro wq hq hf; go_wp2; refine ⟨hq, Below.refl _ _, ?_, rfl⟩; (show rel.slot _ _ = _; simp only [rel.slot_lit, List.getD_cons_succ, List.getD_cons_zero]; (first | done | exact rfl)))); (simp only [rel.put_lit, List.set_cons_succ, List.set_cons_zero]))
      (apply rel.walk_val; (focus (intro wq hq hf; go_wp2; refine ⟨hq, Below.refl _ _, ?_, rfl⟩; (show rel.slot _ _ = _; simp only [rel.slot_lit, List.getD_cons_succ, List.getD_cons_zero]; (first | done | exact rfl)))); (simp only [rel.put_lit, List.set_cons_succ, List.set_cons_zero]))
      (apply rel.walk_val; (focus (intro wq hq hf; go_wp2; refine ⟨hq, Below.refl _ _, ?_, rfl⟩; (show rel.slot _ _ = _; simp only [rel.slot_lit, List.getD_cons_succ, List.getD_cons_zero]; (first | done | exact rfl)))); (simp only [rel.put_lit, List.set_cons_succ, List.set_cons_zero]))
      ((apply rel.walk_val; (focus (intro wq hq hf; (have d0 := (hq.cell (p := ⟨b, 0, none⟩) hb).trans c0); go_wp2; refine ⟨hq, Below.refl _ _, ?_, rfl⟩; (show rel.slot _ _ = _; simp only [rel.slot_lit, List.getD_cons_succ, List.getD_cons_zero]; (first | done | exact rfl)))); (simp only [rel.put_lit, List.set_cons_succ, List.set_cons_zero])))
      (apply rel.walk_val; (focus (intro wq hq hf; go_wp2; refine ⟨hq, Below.refl _ _, ?_, rfl⟩; (show rel.slot _ _ = _; simp only [rel.slot_lit, List.getD_cons_succ, List.getD_cons_zero]; (first | done | exact rfl)))); (simp only [rel.put_lit, List.set_cons_succ, List.set_cons_zero]))
      (apply rel.walk_rel (fun u w' => ral.IsN w' (k + 1) u (xs.set i x)) ⟨_, rfl⟩ (fun u w1 w2 h1 h2 => h2.on h1); (focus (intro wq hq hf; go_wp2_with (go_at_call 27; refine (hcl _ hq).mono ?_; rintro e w'' ⟨⟨u, rfl, hu⟩, hb⟩); refine ⟨hq.trans (hb.mono hq.size), hb, ?_, rfl⟩; (show ral.IsN _ _ (rel.slot _ _) _; simp only [rel.slot_lit, List.getD_cons_succ, List.getD_cons_zero]; exact hu))); (intro u wu _ hu; obtain ⟨pu, rfl, -⟩ := hu; (simp only [rel.put_lit, List.set_cons_succ, List.set_cons_zero])))
      (apply rel.walk_val; (focus (intro wq hq hf; go_wp2; refine ⟨hq, Below.refl _ _, ?_, rfl⟩; (show rel.slot _ _ = _; simp only [rel.slot_lit, List.getD_cons_succ, List.getD_cons_zero]; (first | done | exact rfl)))); (simp only [rel.put_lit, List.set_cons_succ, List.set_cons_zero]))
      (apply rel.walk_val; (focus (intro wq hq hf; go_wp2; refine ⟨hq, Below.refl _ _, ?_, rfl⟩; (show rel.slot _ _ = _; simp only [rel.slot_lit, List.getD_cons_succ, List.getD_cons_zero]; (first | done | exact rfl)))); (simp only [rel.put_lit, List.set_cons_succ, List.set_cons_zero]))
      (apply rel.walk_val; (focus (intro wq hq hf; go_wp2; refine ⟨hq, Below.refl _ _, ?_, rfl⟩; (show rel.slot _ _ = _; simp only [rel.slot_lit, List.getD_cons_succ, List.getD_cons_zero]; (first | done | exact rfl)))); (simp only [rel.put_lit, List.set_cons_succ, List.set_cons_zero]))
      ((apply rel.walk_val; (focus (intro wq hq hf; (have d0 := (hq.cell (p := ⟨b, 2, none⟩) hb).trans c2); go_wp2; refine ⟨hq, Below.refl _ _, ?_, rfl⟩; (show rel.slot _ _ = _; simp only [rel.slot_lit, List.getD_cons_succ, List.getD_cons_zero]; (first | done | exact rfl)))); (simp only [rel.put_lit, List.set_cons_succ, List.set_cons_zero])))
      refine rel.walk_nil ?_
      intro w9 K9 hF
      obtain ⟨pu', he, hu⟩ : IsN w9 (k + 1) (.pointer pu) (xs.set i x) := hF _ (List.mem_cons_self ..)
      obtain rfl : pu = pu' := by simpa using he
      simp only [List.drop_succ_cons, List.drop_zero]
      go_wp2
      go_ret
      have hbz : Below w9.heap.size w9 (w9.alloc (.cells #[.int .i64 D, .pointer pu, .pointer q] 50)) := by
        ((repeat' (first | with_reducible exact Below.refl _ _ | with_reducible apply Below.setCell | with_reducible apply below_drewN | with_reducible apply Below.drew | with_reducible apply Below.alloc | with_reducible refine Below.trans ?_ (Below.mono (by assumption) ?_))) <;> (first | (simp; done) | (simp; omega) | omega))
      have hb0 := K9.trans (hbz.mono K9.size)
      rw [hput.out]
      exact ⟨⟨_, rfl, hmk.out _ _ _ _ _ _ (hp.Blk.newAt (cs := [.int .i64 D, .pointer pu, .pointer q]) (by simp)) (hu.grow hbz hbz.size) (hT.grow hb0 hb0.size)⟩, hb0⟩
    · obtain ⟨n, hn⟩ : ∃ n : Nat, i - xs.length = n := ⟨_, rfl⟩
      have hput : Hid (put x ((k, xs) :: us) i = (k, xs) :: put x us n) := by
        show _ = _
        rw [← hn, put, if_neg hix]
      have hcl := hcl2 n (by omega)
      have hID : D ≤ I := by omega
      have hIn : I - D = n := by omega
      have hI2 : I < 9223372036854775807 := by omega
      rw [hI]
      clear hcl1 hcl2 hk hi hbd hln hxl hD hI hix hn
      replace hIn := Lib.hid hIn
      go_enter Try.func24, Try.ntmps24
      go_wp2_with fail
      apply rel.region_tail (C := fun w' => Below w.heap.size w w') (X := fun w w' => Below w.heap.size w w') 20 (by kernel_rfl) (by kernel_rfl) (by kernel_rfl) (by kernel_rfl) ((Below.refl _ _).drew)
      (apply rel.walk_val; (focus (intro wq hq hf; go_wp2; refine ⟨hq, Below.refl _ _, ?_, rfl⟩; (show rel.slot _ _ = _; simp only [rel.slot_lit, List.getD_cons_succ, List.getD_cons_zero]; (first | done | exact rfl)))); (simp only [rel.put_lit, List.set_cons_succ, List.set_cons_zero]))
      (apply rel.walk_val; (focus (intro wq hq hf; go_wp2; refine ⟨hq, Below.refl _ _, ?_, rfl⟩; (show rel.slot _ _ = _; simp only [rel.slot_lit, List.getD_cons_succ, List.getD_cons_zero]; (first | done | exact rfl)))); (simp only [rel.put_lit, List.set_cons_succ, List.set_cons_zero]))
      (apply rel.walk_val; (focus (intro wq hq hf; go_wp2; refine ⟨hq, Below.refl _ _, ?_, rfl⟩; (show rel.slot _ _ = _; simp only [rel.slot_lit, List.getD_cons_succ, List.getD_cons_zero]; (first | done | exact rfl)))); (simp only [rel.put_lit, List.set_cons_succ, List.set_cons_zero]))
      ((apply rel.walk_val; (focus (intro wq hq hf; (have d0 := (hq.cell (p := ⟨b, 0, none⟩) hb).trans c0); go_wp2; refine ⟨hq, Below.refl _ _, ?_, rfl⟩; (show rel.slot _ _ = _; simp only [rel.slot_lit, List.getD_cons_succ, List.getD_cons_zero]; (first | done | exact rfl)))); (simp only [rel.put_lit, List.set_cons_succ, List.set_cons_zero])))
      (apply rel.walk_val; (focus (intro wq hq hf; go_wp2; refine ⟨hq, Below.refl _ _, ?_, rfl⟩; (show rel.slot _ _ = _; simp only [rel.slot_lit, List.getD_cons_succ, List.getD_cons_zero]; (first | done | exact rfl)))); (simp only [rel.put_lit, List.set_cons_succ, List.set_cons_zero]))
      (apply rel.walk_val; (focus (intro wq hq hf; go_wp2; refine ⟨hq, Below.refl _ _, ?_, rfl⟩; (show rel.slot _ _ = _; simp only [rel.slot_lit, List.getD_cons_succ, List.getD_cons_zero]; (first | done | exact rfl)))); (simp only [rel.put_lit, List.set_cons_succ, List.set_cons_zero]))
      (apply rel.walk_val; (focus (intro wq hq hf; go_wp2; refine ⟨hq, Below.refl _ _, ?_, rfl⟩; (show rel.slot _ _ = _; simp only [rel.slot_lit, List.getD_cons_succ, List.getD_cons_zero]; (first | done | exact rfl)))); (simp only [rel.put_lit, List.set_cons_succ, List.set_cons_zero]))
      ((apply rel.walk_val; (focus (intro wq hq hf; (have d0 := (hq.cell (p := ⟨b, 1, none⟩) hb).trans c1); go_wp2; refine ⟨hq, Below.refl _ _, ?_, rfl⟩; (show rel.slot _ _ = _; simp only [rel.slot_lit, List.getD_cons_succ, List.getD_cons_zero]; (first | done | exact rfl)))); (simp only [rel.put_lit, List.set_cons_succ, List.set_cons_zero])))
      (apply rel.walk_val; (focus (intro wq hq hf; go_wp2; refine ⟨hq, Below.refl _ _, ?_, rfl⟩; (show rel.slot _ _ = _; simp only [rel.slot_lit, List.getD_cons_succ, List.getD_cons_zero]; (first | done | exact rfl)))); (simp only [rel.put_lit, List.set_cons_succ, List.set_cons_zero]))
      (apply rel.walk_val; (focus (intro wq hq hf; go_wp2; refine ⟨hq, Below.refl _ _, ?_, rfl⟩; (show rel.slot _ _ = _; simp only [rel.slot_lit, List.getD_cons_succ, List.getD_cons_zero]; (first | done | exact rfl)))); (simp only [rel.put_lit, List.set_cons_succ, List.set_cons_zero]))
      (apply rel.walk_val; (focus (intro wq hq hf; go_wp2; refine ⟨hq, Below.refl _ _, ?_, rfl⟩; (show rel.slot _ _ = _; simp only [rel.slot_lit, List.getD_cons_succ, List.getD_cons_zero]; (first | done | exact rfl)))); (simp only [rel.put_lit, List.set_cons_succ, List.set_cons_zero]))
      ((apply rel.walk_val; (focus (intro wq hq hf; (have d0 := (hq.cell (p := ⟨b, 2, none⟩) hb).trans c2); go_wp2; refine ⟨hq, Below.refl _ _, ?_, rfl⟩; (show rel.slot _ _ = _; simp only [rel.slot_lit, List.getD_cons_succ, List.getD_cons_zero]; (first | done | exact rfl)))); (simp only [rel.put_lit, List.set_cons_succ, List.set_cons_zero])))
      (apply rel.walk_val; (focus (intro wq hq hf; go_wp2; refine ⟨hq, Below.refl _ _, ?_, rfl⟩; (show rel.slot _ _ = _; simp only [rel.slot_lit, List.getD_cons_succ, List.getD_cons_zero]; (first | done | exact rfl)))); (simp only [rel.put_lit, List.set_cons_succ, List.set_cons_zero]))
      (apply rel.walk_val; (focus (intro wq hq hf; go_wp2; refine ⟨hq, Below.refl _ _, ?_, rfl⟩; (show rel.slot _ _ = _; simp only [rel.slot_lit, List.getD_cons_succ, List.getD_cons_zero]; (first | done | exact rfl)))); (simp only [rel.put_lit, List.set_cons_succ, List.set_cons_zero]))
      (apply rel.walk_val; (focus (intro wq hq hf; go_wp2; refine ⟨hq, Below.refl _ _, ?_, rfl⟩; (show rel.slot _ _ = _; simp only [rel.slot_lit, List.getD_cons_succ, List.getD_cons_zero]; (first | done | exact rfl)))); (simp only [rel.put_lit, List.set_cons_succ, List.set_cons_zero]))
      (apply rel.walk_val; (focus (intro wq hq hf; go_wp2; refine ⟨hq, Below.refl _ _, ?_, rfl⟩; (show rel.slot _ _ = _; simp only [rel.slot_lit, List.getD_cons_succ, List.getD_cons_zero]; (first | done | exact rfl)))); (simp only [rel.put_lit, List.set_cons_succ, List.set_cons_zero]))
      ((apply rel.walk_val; (focus (intro wq hq hf; (have d0 := (hq.cell (p := ⟨b, 0, none⟩) hb).trans c0); go_wp2; refine ⟨hq, Below.refl _ _, ?_, rfl⟩; (show rel.slot _ _ = _; simp only [rel.slot_lit, List.getD_cons_succ, List.getD_cons_zero]; (first | done | exact rfl)))); (simp only [rel.put_lit, List.set_cons_succ, List.set_cons_zero])))
      (apply rel.walk_val; (focus (intro wq hq hf; go_wp2; refine ⟨hq, Below.refl _ _, ?_, rfl⟩; (show rel.slot _ _ = _; simp only [rel.slot_lit, List.getD_cons_succ, List.getD_cons_zero]; (first | done | exact rfl)))); (simp only [rel.put_lit, List.set_cons_succ, List.set_cons_zero]))
      rw [hIn.out]
      (apply rel.walk_val; (focus (intro wq hq hf; go_wp2; refine ⟨hq, Below.refl _ _, ?_, rfl⟩; (show rel.slot _ _ = _; simp only [rel.slot_lit, List.getD_cons_succ, List.getD_cons_zero]; (first | done | exact rfl)))); (simp only [rel.put_lit, List.set_cons_succ, List.set_cons_zero]))
      (apply rel.walk_rel (fun u w' => ral.IsT w' u (put x us n)) ⟨_, rfl⟩ (fun u w1 w2 h1 h2 => h2.on h1); (focus (intro wq hq hf; go_wp2_with (go_at_call 24; refine (hcl _ hq).mono ?_; rintro e w'' ⟨⟨u, rfl, hu⟩, hb⟩); refine ⟨hq.trans (hb.mono hq.size), hb, ?_, rfl⟩; (show ral.IsT _ (rel.slot _ _) _; simp only [rel.slot_lit, List.getD_cons_succ, List.getD_cons_zero]; exact hu))); (intro u wu _ hu; obtain ⟨pu, rfl, -⟩ := hu; (simp only [rel.put_lit, List.set_cons_succ, List.set_cons_zero])))
      refine rel.walk_nil ?_
      intro w9 K9 hF
      obtain ⟨pu', he, hu⟩ : IsT w9 (.pointer pu) (put x us n) := hF _ (List.mem_cons_self ..)
      obtain rfl : pu = pu' := by simpa using he
      simp only [List.drop_succ_cons, List.drop_zero]
      go_wp2
      go_ret
      have hbz : Below w9.heap.size w9 (w9.alloc (.cells #[.int .i64 D, .pointer r, .pointer pu] 50)) := by
        ((repeat' (first | with_reducible exact Below.refl _ _ | with_reducible apply Below.setCell | with_reducible apply below_drewN | with_reducible apply Below.drew | with_reducible apply Below.alloc | with_reducible refine Below.trans ?_ (Below.mono (by assumption) ?_))) <;> (first | (simp; done) | (simp; omega) | omega))
      have hb0 := K9.trans (hbz.mono K9.size)
      rw [hput.out]
      exact ⟨⟨_, rfl, hmk.out _ _ _ _ _ _ (hp.Blk.newAt (cs := [.int .i64 D, .pointer r, .pointer pu]) (by simp)) (hr.grow hb0 hb0.size) (hu.grow hbz hbz.size)⟩, hb0⟩
theorem set_out {v : Value} {l : List Int} {i x : Int} {w : World} (hv : IsRal w w.heap.size v l) (hi : i < 0 ∨ (l.length : Int) ≤ i) (hbd : l.length < 4611686018427387904) :
    Calls Try.prog 13 #[v, .int .i64 i, .int .i64 x] w fun e w' => e = .returned (.tuple #[rv none, .bool false]) ∧ Below w.heap.size w w' := by
  obtain ⟨p, rfl⟩ := hv.val
  obtain ⟨W0, hW0⟩ : ∃ W0, ((w.alloc (.cells #[.pointer p] 25)).alloc (.cells #[.pointer none] 25)) = W0 := ⟨_, rfl⟩
  have hb0 : Below w.heap.size w W0 := by
    rw [← hW0]
    ((repeat' (first | with_reducible exact Below.refl _ _ | with_reducible apply Below.setCell | with_reducible apply below_drewN | with_reducible apply Below.drew | with_reducible apply Below.alloc | with_reducible refine Below.trans ?_ (Below.mono (by assumption) ?_))) <;> (first | (simp; done) | (simp; omega) | omega))
  have hR : hp.Blk W0 (w.heap.size + 1) 25 [.pointer none] := by
    rw [← hW0]
    exact hp.Blk.newAt (by simp)
  have hA : hp.Blk W0 w.heap.size 25 [.pointer p] := by
    rw [← hW0]
    exact (hp.Blk.newAt (by simp)).alloc _
  have hh := has_any (i := i) (r := false) (hv.on hb0) hbd (by symm; simp; omega)
  have a0 := hA.cell 0
  simp only [List.getElem?_cons_zero] at a0
  clear hv hi hbd
  go_enter Try.func13, Try.ntmps13
  go_wp2_with (go_at_call 22; refine hh.mono ?_; rintro e w1 ⟨rfl, hb⟩; have hR1 := hR.on hb; have d0 := hR1.cell 0; have d1 := hR1.free 0; have f0 := (hR1.set 0 (.pointer none)).cell 0; simp only [List.getElem?_cons_zero, List.set_cons_zero] at d0 f0)
  have hb1 : Below w.heap.size w w1 := hb0.trans (hb.mono hb0.size)
  refine bodyPost_ret (v := .tuple #[rv none, .bool false]) (by simp [results, Try.results13, go_sem, f0]) rfl ⟨rfl, ?_⟩
  exact hb1.setCell (by simp) _

theorem set_in {v : Value} {l : List Int} {i : Nat} {x : Int} {w : World} (hv : IsRal w w.heap.size v l) (hi : i < l.length) (hx : (Lit.int .i64 x).wf = true) (hbd : l.length < 4611686018427387904) :
    Calls Try.prog 13 #[v, .int .i64 i, .int .i64 x] w fun e w' => (∃ q, e = .returned (.tuple #[rv q, .bool true]) ∧ IsRal w' w'.heap.size (rv q) (l.set i x)) ∧ Below w.heap.size w w' := by
  have hv' := hv
  obtain ⟨p, ts, rfl, hc, hf, ho, hw⟩ := hv'
  obtain ⟨W0, hW0⟩ : ∃ W0, ((w.alloc (.cells #[.pointer p] 25)).alloc (.cells #[.pointer none] 25)) = W0 := ⟨_, rfl⟩
  have hb0 : Below w.heap.size w W0 := by
    rw [← hW0]
    ((repeat' (first | with_reducible exact Below.refl _ _ | with_reducible apply Below.setCell | with_reducible apply below_drewN | with_reducible apply Below.drew | with_reducible apply Below.alloc | with_reducible refine Below.trans ?_ (Below.mono (by assumption) ?_))) <;> (first | (simp; done) | (simp; omega) | omega))
  have hR : hp.Blk W0 (w.heap.size + 1) 25 [.pointer none] := by
    rw [← hW0]
    exact hp.Blk.newAt (by simp)
  have hA : hp.Blk W0 w.heap.size 25 [.pointer p] := by
    rw [← hW0]
    exact (hp.Blk.newAt (by simp)).alloc _
  have hh := has_any (i := i) (r := true) (hv.on hb0) hbd (by symm; simp; omega)
  have hts := fun (W : World) (hW : Below w.heap.size w W) => tree_set x ts i p W (hc.grow hW hW.size) (by rw [hf]; exact hi) (by rw [hf]; exact hbd)
  have hdone : Hid (∀ (W : World) (q : Option Addr), Trs W.heap.size W q (put x ts i) → IsRal W W.heap.size (rv q) (l.set i x)) := by
    intro W q hq
    refine ⟨q, _, rfl, hq, by rw [put_flat, hf], by rw [put_map]; exact ho, fun y hy => ?_⟩
    rcases List.mem_or_eq_of_mem_set hy with hy | rfl
    · exact hw y hy
    · exact hx
  have a0 := hA.cell 0
  simp only [List.getElem?_cons_zero] at a0
  clear hv hi hbd hf ho hw hc hx
  go_enter Try.func13, Try.ntmps13
  go_wp2_with (first
    | (go_at_call 22; refine hh.mono ?_; rintro e w1 ⟨rfl, hb⟩; have hR1 := hR.on hb; have hA1 := hA.on hb; have d0 := hA1.cell 0; simp only [List.getElem?_cons_zero] at d0; have hb1 : Below w.heap.size w w1 := hb0.trans (hb.mono hb0.size); clear hh)
    | (go_at_call 24; refine (hts _ hb1).mono ?_; rintro e w2 ⟨⟨u, rfl, q, rfl, hq⟩, hb2⟩; have hR2 := hR1.on hb2; have e0 := hR2.cell 0; have e1 := hR2.free 0; have f0 := (hR2.set 0 (.pointer q)).cell 0; simp only [List.getElem?_cons_zero, List.set_cons_zero] at e0 f0))
  refine bodyPost_ret (v := .tuple #[rv q, .bool true]) (by simp [results, Try.results13, go_sem, f0]) rfl ⟨⟨_, rfl, ?_⟩, ?_⟩
  · exact hdone.out _ _ ((hq.keep (Keep.of_set hR2 (by decide) (by decide) _)).mono (by simp))
  · exact (hb1.trans (hb2.mono hb1.size)).setCell (by simp) _
end Go.Proofs.Ythnfcmjlpimnoaa.ral
