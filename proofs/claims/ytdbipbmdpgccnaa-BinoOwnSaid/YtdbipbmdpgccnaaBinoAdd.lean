/- Package bino: a tree is added to a row. -/
import Derived.Test.YtdbipbmdpgccnaaBinoLink
namespace Go.Proofs.Ytdbipbmdpgccnaa.bin
open Go Go.RowKit

/-- a pointer to this tree -/
def IsTr (w : World) (u : Value) (x : Int) (k : Nat) (b : Rw) : Prop := ∃ p, u = .pointer p ∧ Tre w.heap.size w x k b p
theorem IsTr.on {w w' : World} {u : Value} {x : Int} {k : Nat} {b : Rw} (h : IsTr w u x k b) (hb : Below w.heap.size w w') : IsTr w' u x k b := by
  obtain ⟨p, hu, hn⟩ := h
  exact ⟨p, hu, hn.on hb⟩
/-- a pointer to a row of these numbers, of ranks from m on -/
def IsRw (w : World) (u : Value) (m : Nat) (l : List Int) : Prop := ∃ p r, u = .pointer p ∧ Row w.heap.size w r p ∧ Inc m r ∧ (nums r).Perm l
theorem IsRw.on {w w' : World} {u : Value} {m : Nat} {l : List Int} (h : IsRw w u m l) (hb : Below w.heap.size w w') : IsRw w' u m l := by
  obtain ⟨p, r, hu, hn, hi⟩ := h
  exact ⟨p, r, hu, hn.on hb, hi⟩
theorem link_to {x y : Int} {k : Nat} {b c : Rw} {p q : Option Addr} {w : World} (h1 : Tre w.heap.size w x k b p) (h2 : Tre w.heap.size w y k c q) (hk : k < 62) :
    Calls Try.prog 29 #[.pointer p, .pointer q] w fun e w' => (∃ u, e = .returned u ∧ IsTr w' u (lnk x y k b c).1 (k + 1) (lnk x y k b c).2) ∧ Below w.heap.size w w' :=
  (link_any h1 h2 hk).mono fun _ _ ⟨⟨u, he, hu⟩, hb⟩ => ⟨⟨_, he, u, rfl, hu⟩, hb⟩

theorem rank_small {k : Nat} {x : Int} {b : Rw} (h : Ok k x b) (hs : (nums b).length + 1 < 4611686018427387904) : k < 62 := by
  have := h.len
  exact small (n := (nums b).length + 1) (N := 62) (by omega) (by simpa using hs)

set_option maxHeartbeats 8000000 in
theorem add_any {x : Int} {k : Nat} {b r : Rw} {p t : Option Addr} {w : World} (hr : Row w.heap.size w r p) (ht : Tre w.heap.size w x k b t) (hi : Inc k r) (hb : Ok k x b) (hs : (nums r).length + ((nums b).length + 1) < 4611686018427387904) :
    Calls Try.prog 19 #[.pointer p, .pointer t] w fun e w' => (∃ u, e = .returned u ∧ IsRw w' u k (nums r ++ (x :: nums b))) ∧ Below w.heap.size w w' := by
  go_enter Try.func19, Try.ntmps19
  go_wp2_with fail
  go_loopw [0, 1] (fun q t wr => ∃ r' x' k' b' q' t', q = .pointer q' ∧ t = .pointer t' ∧ Row w.heap.size w r' q' ∧ Tre wr.heap.size wr x' k' b' t' ∧ Inc k' r' ∧ Ok k' x' b' ∧ k ≤ k' ∧ Hid ((nums r' ++ (x' :: nums b')).Perm (nums r ++ (x :: nums b))) ∧ Below w.heap.size w wr) (fun q _ _ => left w.heap.size w q)
  case atStart => exact ⟨r, x, k, b, p, t, rfl, rfl, hr, ht, hi, hb, Nat.le_refl _, by show List.Perm _ _; exact List.Perm.refl _, Below.refl _ _⟩
  case round =>
    clear ht hi hb hr
    obtain ⟨r', y, j, c, q', t', rfl, rfl, hr, ht, hi, hb, hkj, hpm, hw⟩ := hrel
    have hle := left_eq hr
    have hlen := hpm.out.length_eq
    simp only [List.length_append, List.length_cons] at hlen
    have hdone : Hid (∀ (W : World), Below wr.heap.size wr W → hp.Blk W wr.heap.size tyR [.pointer t', .pointer q'] → (∀ z l d n, r' = .cons z l d n → l ≠ j) → (∃ u, Ending.returned (.pointer (some ⟨wr.heap.size, 0, none⟩)) = .returned u ∧ IsRw W u k (nums r ++ (x :: nums b))) ∧ Below w.heap.size w W) := by
      intro W hbW hG hne
      have hbw := hw.trans (hbW.mono hw.size)
      refine ⟨⟨_, rfl, _, .cons y j c r', rfl, Row.mk hG (ht.on hbW) (hr.on hbw), ⟨hkj, hb, ?_⟩, ?_⟩, hbw⟩
      · rcases r' with _ | ⟨z, l, d, n⟩
        · trivial
        · obtain ⟨i1, i2, i3⟩ := hi
          have := hne z l d n rfl
          exact ⟨by omega, i2, i3⟩
      · refine List.Perm.trans ?_ hpm.out
        exact (List.perm_append_comm (l₁ := y :: nums c) (l₂ := nums r'))
    rcases r' with _ | ⟨z, l, d, n⟩
    · obtain rfl : q' = none := hr
      go_wp2_with fail
      go_big_region
      go_wp2_with fail
      go_ret
      refine hdone.out _ ?_ ((hp.Blk.newAt (cs := [.pointer t', .pointer none]) rfl).drew) (fun _ _ _ _ h => by cases h)
      ((repeat' (first | with_reducible exact Below.refl _ _ | with_reducible apply Below.setCell | with_reducible apply below_drewN | with_reducible apply Below.drew | with_reducible apply Below.alloc | with_reducible refine Below.trans ?_ (Below.mono (by assumption) ?_))) <;> (first | (simp; done) | (simp; omega) | omega))
    · have hr0 := hr
      have ht0 := ht
      obtain ⟨h2, c2, rfl, hh2, hu2, hc2⟩ := ht
      obtain ⟨g, h, cc, qq, rfl, hg, hv, hh, hu, hb', hn⟩ := hr
      have hle2 := left_eq hn
      obtain ⟨i1, i2, i3⟩ := hi
      have hgw : g < wr.heap.size := Nat.lt_of_lt_of_le hg hw.size
      have hhw : h < wr.heap.size := Nat.lt_of_lt_of_le hh hw.size
      have c0 := (hv.below hw hg).cell 0
      have c1 := (hv.below hw hg).cell 1
      have e1 := (hu.below hw hh).cell 1
      have f1 := hu2.cell 1
      simp only [List.getElem?_cons_zero, List.getElem?_cons_succ] at c0 c1 e1 f1
      have hty : Tre wr.heap.size wr z l d (some ⟨h, 0, none⟩) := Tre.grow (B := w.heap.size) (A := w) ⟨h, cc, rfl, hh, hu, hb'⟩ hw hw.size
      clear hr0 hu hv hu2
      by_cases hlj : l = j
      · subst hlj
        have hl62 : l < 62 := rank_small hb (by omega)
        have hlk := fun W (hW : Below wr.heap.size wr W) => link_to (ht0.on hW) (hty.on hW) hl62
        have hgo : Hid (∀ W u, IsTr W u (lnk y z l c d).1 (l + 1) (lnk y z l c d).2 → Below wr.heap.size wr W → ∃ r' x' k' b' q' t', Value.pointer qq = .pointer q' ∧ u = .pointer t' ∧ Row w.heap.size w r' q' ∧ Tre W.heap.size W x' k' b' t' ∧ Inc k' r' ∧ Ok k' x' b' ∧ k ≤ k' ∧ Hid ((nums r' ++ (x' :: nums b')).Perm (nums r ++ (x :: nums b))) ∧ Below w.heap.size w W) := by
          rintro W _ ⟨pu, rfl, hu⟩ hW
          refine ⟨n, _, l + 1, _, qq, pu, rfl, rfl, hn, hu, i3, lnk_ok hb i2, by omega, ?_, hw.trans (hW.mono hw.size)⟩
          show List.Perm _ _
          refine List.Perm.trans ?_ hpm.out
          refine ((lnk_nums y z l c d).append_left (nums n)).trans ?_
          have h1 : (nums (.cons z l d n)) = (z :: nums d) ++ nums n := rfl
          rw [h1]
          generalize (z :: nums d) = Z
          generalize (y :: nums c) = Y
          exact (List.perm_append_comm (l₁ := nums n) (l₂ := Y ++ Z)).trans ((List.append_assoc Y Z (nums n)).symm ▸ List.perm_append_comm (l₁ := Y) (l₂ := Z ++ nums n))
        obtain ⟨L, hL⟩ : ∃ L : Int, (l : Int) = L := ⟨_, rfl⟩
        rw [hL] at e1 f1
        clear hdone hpm i1 i2 i3 hb hs hlen hkj hl62 hL hc2 hb' ht0 hty
        go_wp2_with fail
        go_big_region
        go_wp2_with fail
        apply rel.region (C := fun w' => Below wr.heap.size wr w') (X := fun w w' => Below w.heap.size w w') (by kernel_rfl) (by kernel_rfl) (by kernel_rfl) ((Below.refl _ _).drew.drew)
        (apply rel.walk_val; (focus (intro wq hq hf; go_wp2; refine ⟨hq, Below.refl _ _, ?_, rfl⟩; (show rel.slot _ _ = _; simp only [rel.slot_lit, List.getD_cons_succ, List.getD_cons_zero]; (first | done | exact rfl)))); (simp only [rel.put_lit, List.set_cons_succ, List.set_cons_zero]))
        (apply rel.walk_val; (focus (intro wq hq hf; go_wp2; refine ⟨hq, Below.refl _ _, ?_, rfl⟩; (show rel.slot _ _ = _; simp only [rel.slot_lit, List.getD_cons_succ, List.getD_cons_zero]; (first | done | exact rfl)))); (simp only [rel.put_lit, List.set_cons_succ, List.set_cons_zero]))
        (apply rel.walk_val; (focus (intro wq hq hf; go_wp2; refine ⟨hq, Below.refl _ _, ?_, rfl⟩; (show rel.slot _ _ = _; simp only [rel.slot_lit, List.getD_cons_succ, List.getD_cons_zero]; (first | done | exact rfl)))); (simp only [rel.put_lit, List.set_cons_succ, List.set_cons_zero]))
        (apply rel.walk_val; (focus (intro wq hq hf; go_wp2; refine ⟨hq, Below.refl _ _, ?_, rfl⟩; (show rel.slot _ _ = _; simp only [rel.slot_lit, List.getD_cons_succ, List.getD_cons_zero]; (first | done | exact rfl)))); (simp only [rel.put_lit, List.set_cons_succ, List.set_cons_zero]))
        ((apply rel.walk_val; (focus (intro wq hq hf; (have d0 := (hq.cell (p := ⟨g, 0, none⟩) hgw).trans c0); go_wp2; refine ⟨hq, Below.refl _ _, ?_, rfl⟩; (show rel.slot _ _ = _; simp only [rel.slot_lit, List.getD_cons_succ, List.getD_cons_zero]; (first | done | exact rfl)))); (simp only [rel.put_lit, List.set_cons_succ, List.set_cons_zero])))
        (apply rel.walk_rel (fun u w' => bin.IsTr w' u ((lnk y z l c d).1) (l + 1) ((lnk y z l c d).2)) ⟨_, rfl⟩ (fun u w1 w2 h1 h2 => h2.on h1); (focus (intro wq hq hf; go_wp2_with (go_at_call 29; with_reducible refine (hlk _ hq).mono ?_; rintro e w'' ⟨⟨u, rfl, hu⟩, hb⟩); refine ⟨hq.trans (hb.mono hq.size), hb, ?_, rfl⟩; (show bin.IsTr _ (rel.slot _ _) _ _ _; simp only [rel.slot_lit, List.getD_cons_succ, List.getD_cons_zero]; exact hu))); (intro u wu _ hu; obtain ⟨pu, rfl, -⟩ := hu; (simp only [rel.put_lit, List.set_cons_succ, List.set_cons_zero])))
        (apply rel.walk_val; (focus (intro wq hq hf; go_wp2; refine ⟨hq, Below.refl _ _, ?_, rfl⟩; (show rel.slot _ _ = _; simp only [rel.slot_lit, List.getD_cons_succ, List.getD_cons_zero]; (first | done | exact rfl)))); (simp only [rel.put_lit, List.set_cons_succ, List.set_cons_zero]))
        (apply rel.walk_val; (focus (intro wq hq hf; go_wp2; refine ⟨hq, Below.refl _ _, ?_, rfl⟩; (show rel.slot _ _ = _; simp only [rel.slot_lit, List.getD_cons_succ, List.getD_cons_zero]; (first | done | exact rfl)))); (simp only [rel.put_lit, List.set_cons_succ, List.set_cons_zero]))
        (apply rel.walk_val; (focus (intro wq hq hf; go_wp2; refine ⟨hq, Below.refl _ _, ?_, rfl⟩; (show rel.slot _ _ = _; simp only [rel.slot_lit, List.getD_cons_succ, List.getD_cons_zero]; (first | done | exact rfl)))); (simp only [rel.put_lit, List.set_cons_succ, List.set_cons_zero]))
        ((apply rel.walk_val; (focus (intro wq hq hf; (have d0 := (hq.cell (p := ⟨g, 1, none⟩) hgw).trans c1); go_wp2; refine ⟨hq, Below.refl _ _, ?_, rfl⟩; (show rel.slot _ _ = _; simp only [rel.slot_lit, List.getD_cons_succ, List.getD_cons_zero]; (first | done | exact rfl)))); (simp only [rel.put_lit, List.set_cons_succ, List.set_cons_zero])))
        (apply rel.walk_rel (fun u w' => bin.IsTr w' u ((lnk y z l c d).1) (l + 1) ((lnk y z l c d).2)) ⟨_, rfl⟩ (fun u w1 w2 h1 h2 => h2.on h1); (focus (intro wq hq hf; have hh0 := hf.get 0 rfl rfl; go_wp2; refine ⟨hq, Below.refl _ _, ?_, rfl⟩; (show bin.IsTr _ (rel.slot _ _) _ _ _; simp only [rel.slot_lit, List.getD_cons_succ, List.getD_cons_zero]; exact hh0))); (intro u wu _ hu; obtain ⟨pv, rfl, -⟩ := hu; (simp only [rel.put_lit, List.set_cons_succ, List.set_cons_zero])))
        (apply rel.walk_val; (focus (intro wq hq hf; go_wp2; refine ⟨hq, Below.refl _ _, ?_, rfl⟩; (show rel.slot _ _ = _; simp only [rel.slot_lit, List.getD_cons_succ, List.getD_cons_zero]; (first | done | exact rfl)))); (simp only [rel.put_lit, List.set_cons_succ, List.set_cons_zero]))
        refine rel.walk_nil ?_
        intro w9 K9 hF
        have hu : IsTr w9 (.pointer pv) (lnk y z l c d).1 (l + 1) (lnk y z l c d).2 := hF _ (List.mem_cons_self ..)
        clear hF
        go_wp2
        go_roundw
        case rel => exact hgo.out _ _ hu K9
        case measure => rw [hle2]; simp [ranks] at hle; omega
      · have hne : (((l : Nat) : Int) == ((j : Nat) : Int)) = false := beq_false_of_ne (by omega)
        obtain ⟨L, hL⟩ : ∃ L : Int, (l : Int) = L := ⟨_, rfl⟩
        obtain ⟨J, hJ⟩ : ∃ J : Int, (j : Int) = J := ⟨_, rfl⟩
        rw [hL] at e1 hne
        rw [hJ] at f1 hne
        clear hpm hb hs hlen hkj hL hJ i1 i2 i3
        go_wp2_with fail
        go_big_region
        go_wp2_with fail
        go_ret
        refine hdone.out _ ?_ ((hp.Blk.newAt (cs := [.pointer (some ⟨h2, 0, none⟩), .pointer (some ⟨g, 0, none⟩)]) rfl).drew) (fun _ _ _ _ h => by cases h; exact hlj)
        ((repeat' (first | with_reducible exact Below.refl _ _ | with_reducible apply Below.setCell | with_reducible apply below_drewN | with_reducible apply Below.drew | with_reducible apply Below.alloc | with_reducible refine Below.trans ?_ (Below.mono (by assumption) ?_))) <;> (first | (simp; done) | (simp; omega) | omega))
end Go.Proofs.Ytdbipbmdpgccnaa.bin
