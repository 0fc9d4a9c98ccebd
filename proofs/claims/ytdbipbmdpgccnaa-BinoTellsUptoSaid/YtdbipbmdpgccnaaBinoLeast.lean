/- Package bino: the least tree of a row; a row without a tree; a row from its last tree to its first. -/
import Derived.Test.YtdbipbmdpgccnaaBinoJoin
namespace Go.Proofs.Ytdbipbmdpgccnaa.bin
open Go Go.RowKit

set_option maxHeartbeats 8000000 in
theorem least_any {r : Rw} {p : Option Addr} {m : Nat} {w : World} (hr : Row w.heap.size w r p) (hi : Inc m r) (hne : r ≠ .nil) :
    Calls Try.prog 26 #[.pointer p] w fun e w' => (∃ t x k b, e = .returned (.pointer t) ∧ Tre w.heap.size w x k b t ∧ Has x k b r ∧ ∀ z ∈ nums r, x ≤ z) ∧ Below w.heap.size w w' := by
  rcases r with _ | ⟨x, k, b, n⟩
  · exact absurd rfl hne
  have hr0 := hr
  obtain ⟨g, h, cb, p2, rfl, hg, hv, hh, hu, hb, hn⟩ := hr
  have htx : Tre w.heap.size w x k b (some ⟨h, 0, none⟩) := ⟨h, cb, rfl, hh, hu, hb⟩
  have c0 := hv.cell 0
  simp only [List.getElem?_cons_zero] at c0
  obtain ⟨R, hR⟩ : ∃ R, R = Rw.cons x k b n := ⟨_, rfl⟩
  have hhas : Has x k b R := by rw [hR]; exact .inl ⟨rfl, rfl, rfl⟩
  rw [← hR] at hr0 hi ⊢
  clear hR hne hv hu hb hn
  go_enter Try.func26, Try.ntmps26
  go_wp2_with fail
  go_loopw [0, 3] (fun q t wr => ∃ r' y j c q' t', q = .pointer q' ∧ t = .pointer t' ∧ Row w.heap.size w r' q' ∧ Tre w.heap.size w y j c t' ∧ Hid (Has y j c R ∧ (∀ z l d, Has z l d R → y ≤ z ∨ Has z l d r') ∧ (∀ z l d, Has z l d r' → Has z l d R)) ∧ Below w.heap.size w wr) (fun q _ _ => left w.heap.size w q)
  case atStart => exact ⟨R, x, k, b, _, _, rfl, rfl, hr0, htx, Lib.hid ⟨hhas, fun _ _ _ h => .inr h, fun _ _ _ h => h⟩, Below.refl _ _⟩
  case round =>
    clear hr0 htx hhas c0
    obtain ⟨r', y, j, c, q', t', rfl, rfl, hr, ht, hP, hw⟩ := hrel
    have hle := left_eq hr
    rcases r' with _ | ⟨z, l, d, n'⟩
    · obtain rfl : q' = none := hr
      go_wp2_with fail
      go_ret
      obtain ⟨h1, h2, -⟩ := hP.out
      exact ⟨⟨_, y, j, c, rfl, ht, h1, hi.least fun z l d hz => (h2 z l d hz).resolve_right (fun h => h.elim)⟩, hw⟩
    · have ht0 := ht
      obtain ⟨h2, c2, rfl, hh2, hu2, hc2⟩ := ht
      obtain ⟨g', h', cc, qq, rfl, hg', hv, hh', hu, hb', hn'⟩ := hr
      have hle2 := left_eq hn'
      have c0 := (hv.below hw hg').cell 0
      have c1 := (hv.below hw hg').cell 1
      have e0 := (hu.below hw hh').cell 0
      have f0 := (hu2.below hw hh2).cell 0
      simp only [List.getElem?_cons_zero, List.getElem?_cons_succ] at c0 c1 e0 f0
      have htz : Tre w.heap.size w z l d (some ⟨h', 0, none⟩) := ⟨h', cc, rfl, hh', hu, hb'⟩
      clear hu hv hu2 hb' hc2
      by_cases hlt : z < y
      · have hP2 : Hid (Has z l d R ∧ (∀ z' l' d', Has z' l' d' R → z ≤ z' ∨ Has z' l' d' n') ∧ (∀ z' l' d', Has z' l' d' n' → Has z' l' d' R)) := by
          obtain ⟨h1, h2, h3⟩ := hP.out
          refine Lib.hid ⟨h3 _ _ _ (.inl ⟨rfl, rfl, rfl⟩), fun z' l' d' hz => ?_, fun z' l' d' hz => h3 _ _ _ (.inr hz)⟩
          rcases h2 _ _ _ hz with h | ⟨rfl, rfl, rfl⟩ | h
          · exact .inl (by omega)
          · exact .inl (Int.le_refl _)
          · exact .inr h
        clear hP ht0
        go_wp2_with fail
        go_big_region
        go_wp2_with fail
        go_roundw
        case rel => exact ⟨n', z, l, d, qq, _, rfl, rfl, hn', htz, hP2, by ((repeat' (first | with_reducible exact Below.refl _ _ | with_reducible apply Below.setCell | with_reducible apply below_drewN | with_reducible apply Below.drew | with_reducible apply Below.alloc | with_reducible refine Below.trans ?_ (Below.mono (by assumption) ?_))) <;> (first | (simp; done) | (simp; omega) | omega))⟩
        case measure => rw [hle2]; simp [ranks] at hle; omega
      · have hP2 : Hid (Has y j c R ∧ (∀ z' l' d', Has z' l' d' R → y ≤ z' ∨ Has z' l' d' n') ∧ (∀ z' l' d', Has z' l' d' n' → Has z' l' d' R)) := by
          obtain ⟨h1, h2, h3⟩ := hP.out
          refine Lib.hid ⟨h1, fun z' l' d' hz => ?_, fun z' l' d' hz => h3 _ _ _ (.inr hz)⟩
          rcases h2 _ _ _ hz with h | ⟨rfl, rfl, rfl⟩ | h
          · exact .inl h
          · exact .inl (by omega)
          · exact .inr h
        have hlt2 : decide (z < y) = false := by simpa using hlt
        clear hP htz
        go_wp2_with fail
        go_big_region
        go_wp2_with fail
        go_roundw
        case rel => exact ⟨n', y, j, c, qq, _, rfl, rfl, hn', ht0, hP2, by ((repeat' (first | with_reducible exact Below.refl _ _ | with_reducible apply Below.setCell | with_reducible apply below_drewN | with_reducible apply Below.drew | with_reducible apply Below.alloc | with_reducible refine Below.trans ?_ (Below.mono (by assumption) ?_))) <;> (first | (simp; done) | (simp; omega) | omega))⟩
        case measure => rw [hle2]; simp [ranks] at hle; omega

/-- a pointer to this row -/
def IsR (w : World) (u : Value) (r : Rw) : Prop := ∃ p, u = .pointer p ∧ Row w.heap.size w r p
theorem IsR.on {w w' : World} {u : Value} {r : Rw} (h : IsR w u r) (hb : Below w.heap.size w w') : IsR w' u r := by
  obtain ⟨p, hu, hn⟩ := h
  exact ⟨p, hu, hn.on hb⟩

set_option maxHeartbeats 8000000 in
theorem without_any {k : Nat} : ∀ (r : Rw) (p : Option Addr) (w : World), Row w.heap.size w r p → k ∈ ranks r →
    Calls Try.prog 27 #[.pointer p, .int .i64 k] w fun e w' => (∃ u, e = .returned u ∧ IsR w' u (cut k r)) ∧ Below w.heap.size w w' := by
  intro r
  induction r with
  | nil =>
    rintro p w - h
    simp [ranks] at h
  | cons x j b n _ ih =>
    intro p w hr hk
    obtain ⟨g, h, cb, q, rfl, hg, hv, hh, hu, hb, hn⟩ := hr
    have htx : Tre w.heap.size w x j b (some ⟨h, 0, none⟩) := ⟨h, cb, rfl, hh, hu, hb⟩
    have c0 := hv.cell 0
    have c1 := hv.cell 1
    have e1 := hu.cell 1
    simp only [List.getElem?_cons_zero, List.getElem?_cons_succ] at c0 c1 e1
    clear hu hv
    by_cases hj : j = k
    · subst hj
      have hd : IsR w (.pointer q) (cut j (.cons x j b n)) := ⟨q, rfl, by rw [cut, if_pos rfl]; exact hn⟩
      generalize (j : Int) = J at *
      clear ih hk
      go_enter Try.func27, Try.ntmps27
      go_wp2_with fail
      go_ret
      exact ⟨⟨_, rfl, hd⟩, Below.refl _ _⟩
    · have hk' : k ∈ ranks n := by
        simp only [ranks, List.mem_cons] at hk
        rcases hk with h | h
        · omega
        · exact h
      have hcl := fun W (hW : Below w.heap.size w W) => ih q W (hn.grow hW hW.size) hk'
      have hdone : Hid (∀ (W : World) (G : Nat) (pu : Option Addr), Below w.heap.size w W → hp.Blk W G tyR [.pointer (some ⟨h, 0, none⟩), .pointer pu] → IsR W (.pointer pu) (cut k n) → IsR W (.pointer (some ⟨G, 0, none⟩)) (cut k (.cons x j b n))) := by
        rintro W G pu hW hG ⟨_, he, hu⟩
        cases he
        refine ⟨_, rfl, ?_⟩
        rw [cut, if_neg hj]
        exact Row.mk hG (htx.on hW) hu
      have hne : ((j : Int) == (k : Int)) = false := beq_false_of_ne (by omega)
      generalize (k : Int) = K at *
      generalize (j : Int) = J at *
      clear ih hk
      go_enter Try.func27, Try.ntmps27
      go_wp2_with fail
      apply rel.region_tail (C := fun w' => Below w.heap.size w w') (X := fun w w' => Below w.heap.size w w') 10 (by kernel_rfl) (by kernel_rfl) (by kernel_rfl) (by kernel_rfl) ((Below.refl _ _).drew)
      (apply rel.walk_val; (focus (intro wq hq hf; go_wp2; refine ⟨hq, Below.refl _ _, ?_, rfl⟩; (show rel.slot _ _ = _; simp only [rel.slot_lit, List.getD_cons_succ, List.getD_cons_zero]; (first | done | exact rfl)))); (simp only [rel.put_lit, List.set_cons_succ, List.set_cons_zero]))
      (apply rel.walk_val; (focus (intro wq hq hf; go_wp2; refine ⟨hq, Below.refl _ _, ?_, rfl⟩; (show rel.slot _ _ = _; simp only [rel.slot_lit, List.getD_cons_succ, List.getD_cons_zero]; (first | done | exact rfl)))); (simp only [rel.put_lit, List.set_cons_succ, List.set_cons_zero]))
      (apply rel.walk_val; (focus (intro wq hq hf; go_wp2; refine ⟨hq, Below.refl _ _, ?_, rfl⟩; (show rel.slot _ _ = _; simp only [rel.slot_lit, List.getD_cons_succ, List.getD_cons_zero]; (first | done | exact rfl)))); (simp only [rel.put_lit, List.set_cons_succ, List.set_cons_zero]))
      ((apply rel.walk_val; (focus (intro wq hq hf; (have d0 := (hq.cell (p := ⟨g, 0, none⟩) hg).trans c0); go_wp2; refine ⟨hq, Below.refl _ _, ?_, rfl⟩; (show rel.slot _ _ = _; simp only [rel.slot_lit, List.getD_cons_succ, List.getD_cons_zero]; (first | done | exact rfl)))); (simp only [rel.put_lit, List.set_cons_succ, List.set_cons_zero])))
      (apply rel.walk_val; (focus (intro wq hq hf; go_wp2; refine ⟨hq, Below.refl _ _, ?_, rfl⟩; (show rel.slot _ _ = _; simp only [rel.slot_lit, List.getD_cons_succ, List.getD_cons_zero]; (first | done | exact rfl)))); (simp only [rel.put_lit, List.set_cons_succ, List.set_cons_zero]))
      (apply rel.walk_val; (focus (intro wq hq hf; go_wp2; refine ⟨hq, Below.refl _ _, ?_, rfl⟩; (show rel.slot _ _ = _; simp only [rel.slot_lit, List.getD_cons_succ, List.getD_cons_zero]; (first | done | exact rfl)))); (simp only [rel.put_lit, List.set_cons_succ, List.set_cons_zero]))
      (apply rel.walk_val; (focus (intro wq hq hf; go_wp2; refine ⟨hq, Below.refl _ _, ?_, rfl⟩; (show rel.slot _ _ = _; simp only [rel.slot_lit, List.getD_cons_succ, List.getD_cons_zero]; (first | done | exact rfl)))); (simp only [rel.put_lit, List.set_cons_succ, List.set_cons_zero]))
      ((apply rel.walk_val; (focus (intro wq hq hf; (have d0 := (hq.cell (p := ⟨g, 1, none⟩) hg).trans c1); go_wp2; refine ⟨hq, Below.refl _ _, ?_, rfl⟩; (show rel.slot _ _ = _; simp only [rel.slot_lit, List.getD_cons_succ, List.getD_cons_zero]; (first | done | exact rfl)))); (simp only [rel.put_lit, List.set_cons_succ, List.set_cons_zero])))
      (apply rel.walk_val; (focus (intro wq hq hf; go_wp2; refine ⟨hq, Below.refl _ _, ?_, rfl⟩; (show rel.slot _ _ = _; simp only [rel.slot_lit, List.getD_cons_succ, List.getD_cons_zero]; (first | done | exact rfl)))); (simp only [rel.put_lit, List.set_cons_succ, List.set_cons_zero]))
      (apply rel.walk_rel (fun u w' => bin.IsR w' u (cut k n)) ⟨_, rfl⟩ (fun u w1 w2 h1 h2 => h2.on h1); (focus (intro wq hq hf; go_wp2_with (go_at_call 27; with_reducible refine (hcl _ hq).mono ?_; rintro e w'' ⟨⟨u, rfl, hu⟩, hb⟩); refine ⟨hq.trans (hb.mono hq.size), hb, ?_, rfl⟩; (show bin.IsR _ (rel.slot _ _) _; simp only [rel.slot_lit, List.getD_cons_succ, List.getD_cons_zero]; exact hu))); (intro u wu _ hu; obtain ⟨pu, rfl, -⟩ := hu; (simp only [rel.put_lit, List.set_cons_succ, List.set_cons_zero])))
      refine rel.walk_nil ?_
      intro w9 K9 hF
      have hu : IsR w9 (.pointer pu) (cut k n) := hF _ (List.mem_cons_self ..)
      clear hF
      simp only [List.drop_succ_cons, List.drop_zero]
      go_wp2
      go_ret
      have hbz : Below w9.heap.size w9 (w9.alloc (.cells #[.pointer (some ⟨h, 0, none⟩), .pointer pu] tyR)) := by
        ((repeat' (first | with_reducible exact Below.refl _ _ | with_reducible apply Below.setCell | with_reducible apply below_drewN | with_reducible apply Below.drew | with_reducible apply Below.alloc | with_reducible refine Below.trans ?_ (Below.mono (by assumption) ?_))) <;> (first | (simp; done) | (simp; omega) | omega))
      have hb0 := K9.trans (hbz.mono K9.size)
      exact ⟨⟨_, rfl, hdone.out _ _ _ hb0 (hp.Blk.newAt (cs := [.pointer (some ⟨h, 0, none⟩), .pointer pu]) rfl) (hu.on hbz)⟩, hb0⟩

set_option maxHeartbeats 8000000 in
theorem reversed_any {r : Rw} {p : Option Addr} {w : World} (hr : Row w.heap.size w r p) :
    Calls Try.prog 28 #[.pointer p] w fun e w' => (∃ u, e = .returned u ∧ IsR w' u (rev .nil r)) ∧ Below w.heap.size w w' := by
  go_enter Try.func28, Try.ntmps28
  go_wp2_with fail
  go_loopw [0, 3] (fun q t wr => ∃ r' s q' t', q = .pointer q' ∧ t = .pointer t' ∧ Row w.heap.size w r' q' ∧ Row wr.heap.size wr s t' ∧ Hid (rev s r' = rev .nil r) ∧ Below w.heap.size w wr) (fun q _ _ => left w.heap.size w q)
  case atStart => exact ⟨r, .nil, p, none, rfl, rfl, hr, rfl, Lib.hid rfl, Below.refl _ _⟩
  case round =>
    clear hr
    obtain ⟨r', s, q', t', rfl, rfl, hr, hs, hP, hw⟩ := hrel
    have hle := left_eq hr
    rcases r' with _ | ⟨z, l, d, n'⟩
    · obtain rfl : q' = none := hr
      have hd : IsR wr (.pointer t') (rev .nil r) := ⟨t', rfl, by rw [← hP.out]; exact hs⟩
      go_wp2_with fail
      go_ret
      exact ⟨⟨_, rfl, hd⟩, hw⟩
    · obtain ⟨g', h', cc, qq, rfl, hg', hv, hh', hu, hb', hn'⟩ := hr
      have hle2 := left_eq hn'
      have c0 := (hv.below hw hg').cell 0
      have hgw : g' < wr.heap.size := Nat.lt_of_lt_of_le hg' hw.size
      have c1 := (hv.below hw hg').cell 1
      simp only [List.getElem?_cons_zero, List.getElem?_cons_succ] at c0 c1
      have htz : Tre wr.heap.size wr z l d (some ⟨h', 0, none⟩) := Tre.grow (B := w.heap.size) (A := w) ⟨h', cc, rfl, hh', hu, hb'⟩ hw hw.size
      clear hu hv hb'
      go_wp2_with fail
      go_roundw
      case rel =>
        have hbz : Below wr.heap.size wr (wr.alloc (.cells #[.pointer (some ⟨h', 0, none⟩), .pointer t'] tyR)) := by
          ((repeat' (first | with_reducible exact Below.refl _ _ | with_reducible apply Below.setCell | with_reducible apply below_drewN | with_reducible apply Below.drew | with_reducible apply Below.alloc | with_reducible refine Below.trans ?_ (Below.mono (by assumption) ?_))) <;> (first | (simp; done) | (simp; omega) | omega))
        exact ⟨n', .cons z l d s, qq, _, rfl, rfl, hn', Row.mk (hp.Blk.newAt (cs := [.pointer (some ⟨h', 0, none⟩), .pointer t']) rfl) (htz.on hbz) (hs.on hbz), hP, hw.trans (hbz.mono hw.size)⟩
      case measure => rw [hle2]; simp [ranks] at hle; omega
end Go.Proofs.Ytdbipbmdpgccnaa.bin
