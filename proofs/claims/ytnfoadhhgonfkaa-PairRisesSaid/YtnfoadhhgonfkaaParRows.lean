/- Package pair: the trees of a row are linked in pairs, and all of them. -/
import Derived.Test.YtnfoadhhgonfkaaParLink
import Derived.Deep.LoopGhost
namespace Go.Proofs.Ytnfoadhhgonfkaa.par
open Go Go.RowKit

set_option maxHeartbeats 8000000 in
theorem all_any {r : Rw} {p : Option Addr} {w : World} (hr : Row w.heap.size w r p) (ho : Ok r) :
    Calls Try.prog 26 #[.pointer p] w fun e w' => (∃ u, e = .returned u ∧ IsTr w' u (nums r)) ∧ Below w.heap.size w w' := by
  go_enter Try.func26, Try.ntmps26
  go_wp2_with fail
  go_loopg [0, 3] (many r) (fun k q u wr => ∃ r' q' l, k = many r' ∧ q = .pointer q' ∧ Row w.heap.size w r' q' ∧ Ok r' ∧ IsTr wr u l ∧ Hid ((l ++ nums r').Perm (nums r)) ∧ Below w.heap.size w wr)
  case atStart => exact ⟨r, p, [], rfl, rfl, hr, ho, IsTr.nil _, by show List.Perm _ _; exact List.Perm.refl _, Below.refl _ _⟩
  case round =>
    clear hr ho
    obtain ⟨r', q', l, hk, rfl, hr, ho, hu, hpm, hw⟩ := hrel
    have hu2 := hu
    obtain ⟨pu, _, rfl, -⟩ := hu2
    rcases r' with _ | ⟨x, b, n⟩
    · obtain rfl : q' = none := hr
      have hd := hu.perm (l' := nums r) (by have := hpm.out; simpa [nums] using this)
      clear hu hpm hk
      go_wp2_with fail
      go_ret
      exact ⟨⟨_, rfl, hd⟩, hw⟩
    · obtain ⟨g, h, c, q, rfl, hg, hv, hh, ht, hb, hn⟩ := hr
      have hv2 := hv.below hw hg
      obtain ⟨c0, c1⟩ := hv2.cells2
      have hgw : g < wr.heap.size := Nat.lt_of_lt_of_le hg hw.size
      have htr : IsTr wr (.pointer (some ⟨h, 0, none⟩)) (x :: nums b) := ⟨_, some (x, b), rfl, (Tre.grow (B := w.heap.size) (A := w) ⟨h, c, rfl, hh, ht, hb⟩ hw hw.size), ⟨ho.1, ho.2.1⟩, List.Perm.refl _⟩
      have hlk := link_to hu htr
      have hpm2 : Hid (((l ++ (x :: nums b)) ++ nums n).Perm (nums r)) := Lib.hid (by
        refine List.Perm.trans ?_ hpm.out
        rw [List.append_assoc]
        exact List.Perm.refl _)
      have hm : many n < gk := by rw [hk]; simp [many]
      have on := ho.2.2
      clear hpm hk ho hu htr hv hb
      go_wp2_with (go_at_call 19; (with_reducible refine hlk.mono ?_); clear hlk; rintro e w2 ⟨⟨u, rfl, hu⟩, hb2⟩; obtain ⟨d0, d1⟩ := (hv2.on hb2).cells2; clear c0 c1)
      go_roundg (many n)
      case measure => exact hm
      case rel => exact ⟨n, q, _, rfl, rfl, hn, on, hu, hpm2, hw.trans (hb2.mono hw.size)⟩

set_option maxHeartbeats 8000000 in
theorem pairs_any {r : Rw} {p : Option Addr} {w : World} (hr : Row w.heap.size w r p) (ho : Ok r) :
    Calls Try.prog 25 #[.pointer p] w fun e w' => (∃ u, e = .returned u ∧ IsRw w' u (nums r)) ∧ Below w.heap.size w w' := by
  go_enter Try.func25, Try.ntmps25
  go_wp2_with fail
  go_loopg [0, 3] (many r) (fun k q u wr => ∃ r' q' l, k = many r' ∧ q = .pointer q' ∧ Row w.heap.size w r' q' ∧ Ok r' ∧ IsRw wr u l ∧ Hid ((nums r' ++ l).Perm (nums r)) ∧ Below w.heap.size w wr)
  case atStart => exact ⟨r, p, [], rfl, rfl, hr, ho, IsRw.nil _, by show List.Perm _ _; rw [List.append_nil], Below.refl _ _⟩
  case round =>
    clear hr ho
    obtain ⟨r', q', l, hk, rfl, hr, ho, hu, hpm, hw⟩ := hrel
    have hu2 := hu
    obtain ⟨pu, ru, rfl, hru, oru, hlu⟩ := hu2
    rcases r' with _ | ⟨x, b, _ | ⟨y, d, n⟩⟩
    · obtain rfl : q' = none := hr
      have hd := hu.perm (l' := nums r) (by have := hpm.out; simpa [nums] using this)
      clear hu hpm hk hru
      go_wp2_with fail
      go_ret
      exact ⟨⟨_, rfl, hd⟩, hw⟩
    · obtain ⟨g, h, c, q, rfl, hg, hv, hh, ht, hb, hn⟩ := hr
      obtain rfl : q = none := hn
      have hv2 := hv.below hw hg
      obtain ⟨c0, c1⟩ := hv2.cells2
      have hgw : g < wr.heap.size := Nat.lt_of_lt_of_le hg hw.size
      have htr : Tre wr.heap.size wr (some (x, b)) (some ⟨h, 0, none⟩) := Tre.grow (B := w.heap.size) (A := w) ⟨h, c, rfl, hh, ht, hb⟩ hw hw.size
      have hdone : Hid (∀ W, Below wr.heap.size wr W → hp.Blk W wr.heap.size tyR [.pointer (some ⟨h, 0, none⟩), .pointer pu] → IsRw W (.pointer (some ⟨wr.heap.size, 0, none⟩)) (nums r)) := Lib.hid fun W hW hG => ⟨_, .cons x b ru, rfl, Row.mk hG (htr.on hW) (hru.on hW), ⟨ho.1, ho.2.1, oru⟩, by
        refine List.Perm.trans ?_ hpm.out
        simp only [nums, List.append_nil]
        exact hlu.append_left (x :: nums b)⟩
      clear hpm hk ho hu hv hb ht htr hru oru hlu
      go_wp2_with fail
      go_ret
      have hb0 : Below wr.heap.size wr (wr.alloc (.cells #[.pointer (some ⟨h, 0, none⟩), .pointer pu] tyR)) := (Below.refl _ _).alloc (Nat.le_refl _) _
      exact ⟨⟨_, rfl, hdone.out _ hb0 (hp.Blk.newAt rfl)⟩, hw.trans (hb0.mono hw.size)⟩
    · obtain ⟨g, h, c, q, rfl, hg, hv, hh, ht, hb, hn⟩ := hr
      obtain ⟨g2, h2, c2, q2, rfl, hg2, hv2, hh2, ht2, hb2, hn2⟩ := hn
      replace hv := hv.below hw hg
      replace hv2 := hv2.below hw hg2
      obtain ⟨c0, c1⟩ := hv.cells2
      obtain ⟨e0, e1⟩ := hv2.cells2
      have hgw : g < wr.heap.size := Nat.lt_of_lt_of_le hg hw.size
      have hgw2 : g2 < wr.heap.size := Nat.lt_of_lt_of_le hg2 hw.size
      have htr : IsTr wr (.pointer (some ⟨h, 0, none⟩)) (x :: nums b) := ⟨_, some (x, b), rfl, (Tre.grow (B := w.heap.size) (A := w) ⟨h, c, rfl, hh, ht, hb⟩ hw hw.size), ⟨ho.1, ho.2.1⟩, List.Perm.refl _⟩
      have htr2 : IsTr wr (.pointer (some ⟨h2, 0, none⟩)) (y :: nums d) := ⟨_, some (y, d), rfl, (Tre.grow (B := w.heap.size) (A := w) ⟨h2, c2, rfl, hh2, ht2, hb2⟩ hw hw.size), ⟨ho.2.2.1, ho.2.2.2.1⟩, List.Perm.refl _⟩
      have hlk := fun W (hW : Below wr.heap.size wr W) => link_to (htr.on hW) (htr2.on hW)
      have on := ho.2.2.2.2
      have hm : many n < gk := by rw [hk]; simp [many]; omega
      have hdone : Hid (∀ W G t, Below wr.heap.size wr W → hp.Blk W G tyR [.pointer t, .pointer pu] → IsTr W (.pointer t) ((x :: nums b) ++ (y :: nums d)) → IsRw W (.pointer (some ⟨G, 0, none⟩)) ((x :: nums b) ++ (y :: nums d) ++ l)) := Lib.hid fun W G t hW hG hT => by
        obtain ⟨_, t', he, htt, hto, htl⟩ := hT
        cases he
        rcases t' with _ | ⟨z, f⟩
        · have := htl.length_eq
          simp [tnums] at this
        · exact ⟨_, .cons z f ru, rfl, Row.mk hG htt (hru.on hW), ⟨hto.1, hto.2, oru⟩, htl.append hlu⟩
      have hpm2 : Hid ((nums n ++ ((x :: nums b) ++ (y :: nums d) ++ l)).Perm (nums r)) := Lib.hid (by
        refine List.Perm.trans ?_ hpm.out
        rw [show nums (.cons x b (.cons y d n)) = (x :: nums b) ++ ((y :: nums d) ++ nums n) from rfl]
        generalize (x :: nums b) = X
        generalize (y :: nums d) = Y
        refine List.perm_append_comm.trans ?_
        simp only [List.append_assoc]
        refine List.Perm.append_left X (List.Perm.append_left Y ?_)
        exact List.perm_append_comm)
      obtain ⟨L, hL⟩ : ∃ L, (x :: nums b) ++ (y :: nums d) = L := ⟨_, rfl⟩
      obtain ⟨M, hM⟩ : ∃ M, L ++ l = M := ⟨_, rfl⟩
      rw [hL] at hlk hdone hpm2
      rw [hM] at hdone hpm2
      clear hpm hk ho hu hb ht htr htr2 hru oru hlu hb2 ht2 hL hM
      go_wp2_with fail
      apply rel.region_tail (C := fun w' => Below wr.heap.size wr w') (X := fun w w' => Below w.heap.size w w') 13 (by kernel_rfl) (by kernel_rfl) (by kernel_rfl) (by kernel_rfl) ((Below.refl _ _).drew)
      (apply rel.walk_val; (focus (intro wq hq hf; go_wp2; refine ⟨hq, Below.refl _ _, ?_, rfl⟩; (show rel.slot _ _ = _; simp only [rel.slot_lit, List.getD_cons_succ, List.getD_cons_zero]; (first | done | exact rfl)))); (simp only [rel.put_lit, List.set_cons_succ, List.set_cons_zero]))
      (apply rel.walk_val; (focus (intro wq hq hf; go_wp2; refine ⟨hq, Below.refl _ _, ?_, rfl⟩; (show rel.slot _ _ = _; simp only [rel.slot_lit, List.getD_cons_succ, List.getD_cons_zero]; (first | done | exact rfl)))); (simp only [rel.put_lit, List.set_cons_succ, List.set_cons_zero]))
      (apply rel.walk_val; (focus (intro wq hq hf; go_wp2; refine ⟨hq, Below.refl _ _, ?_, rfl⟩; (show rel.slot _ _ = _; simp only [rel.slot_lit, List.getD_cons_succ, List.getD_cons_zero]; (first | done | exact rfl)))); (simp only [rel.put_lit, List.set_cons_succ, List.set_cons_zero]))
      ((apply rel.walk_val; (focus (intro wq hq hf; (have d0 := (hq.cell (p := ⟨g, 0, none⟩) hgw).trans c0); go_wp2; refine ⟨hq, Below.refl _ _, ?_, rfl⟩; (show rel.slot _ _ = _; simp only [rel.slot_lit, List.getD_cons_succ, List.getD_cons_zero]; (first | done | exact rfl)))); (simp only [rel.put_lit, List.set_cons_succ, List.set_cons_zero])))
      (apply rel.walk_val; (focus (intro wq hq hf; go_wp2; refine ⟨hq, Below.refl _ _, ?_, rfl⟩; (show rel.slot _ _ = _; simp only [rel.slot_lit, List.getD_cons_succ, List.getD_cons_zero]; (first | done | exact rfl)))); (simp only [rel.put_lit, List.set_cons_succ, List.set_cons_zero]))
      (apply rel.walk_val; (focus (intro wq hq hf; go_wp2; refine ⟨hq, Below.refl _ _, ?_, rfl⟩; (show rel.slot _ _ = _; simp only [rel.slot_lit, List.getD_cons_succ, List.getD_cons_zero]; (first | done | exact rfl)))); (simp only [rel.put_lit, List.set_cons_succ, List.set_cons_zero]))
      (apply rel.walk_val; (focus (intro wq hq hf; go_wp2; refine ⟨hq, Below.refl _ _, ?_, rfl⟩; (show rel.slot _ _ = _; simp only [rel.slot_lit, List.getD_cons_succ, List.getD_cons_zero]; (first | done | exact rfl)))); (simp only [rel.put_lit, List.set_cons_succ, List.set_cons_zero]))
      ((apply rel.walk_val; (focus (intro wq hq hf; (have d0 := (hq.cell (p := ⟨g, 1, none⟩) hgw).trans c1); go_wp2; refine ⟨hq, Below.refl _ _, ?_, rfl⟩; (show rel.slot _ _ = _; simp only [rel.slot_lit, List.getD_cons_succ, List.getD_cons_zero]; (first | done | exact rfl)))); (simp only [rel.put_lit, List.set_cons_succ, List.set_cons_zero])))
      (apply rel.walk_val; (focus (intro wq hq hf; go_wp2; refine ⟨hq, Below.refl _ _, ?_, rfl⟩; (show rel.slot _ _ = _; simp only [rel.slot_lit, List.getD_cons_succ, List.getD_cons_zero]; (first | done | exact rfl)))); (simp only [rel.put_lit, List.set_cons_succ, List.set_cons_zero]))
      (apply rel.walk_val; (focus (intro wq hq hf; go_wp2; refine ⟨hq, Below.refl _ _, ?_, rfl⟩; (show rel.slot _ _ = _; simp only [rel.slot_lit, List.getD_cons_succ, List.getD_cons_zero]; (first | done | exact rfl)))); (simp only [rel.put_lit, List.set_cons_succ, List.set_cons_zero]))
      ((apply rel.walk_val; (focus (intro wq hq hf; (have d0 := (hq.cell (p := ⟨g2, 0, none⟩) hgw2).trans e0); go_wp2; refine ⟨hq, Below.refl _ _, ?_, rfl⟩; (show rel.slot _ _ = _; simp only [rel.slot_lit, List.getD_cons_succ, List.getD_cons_zero]; (first | done | exact rfl)))); (simp only [rel.put_lit, List.set_cons_succ, List.set_cons_zero])))
      (apply rel.walk_rel (fun u w' => par.IsTr w' u (L)) ⟨_, rfl⟩ (fun u w1 w2 h1 h2 => h2.on h1); (focus (intro wq hq hf; go_wp2_with (go_at_call 19; with_reducible refine (hlk _ hq).mono ?_; rintro e w'' ⟨⟨u, rfl, hu⟩, hb⟩); refine ⟨hq.trans (hb.mono hq.size), hb, ?_, rfl⟩; (show par.IsTr _ (rel.slot _ _) _; simp only [rel.slot_lit, List.getD_cons_succ, List.getD_cons_zero]; exact hu))); (intro u wu _ hu; obtain ⟨pt, t_pt, rfl, -⟩ := hu; (simp only [rel.put_lit, List.set_cons_succ, List.set_cons_zero])))
      (apply rel.walk_val; (focus (intro wq hq hf; go_wp2; refine ⟨hq, Below.refl _ _, ?_, rfl⟩; (show rel.slot _ _ = _; simp only [rel.slot_lit, List.getD_cons_succ, List.getD_cons_zero]; (first | done | exact rfl)))); (simp only [rel.put_lit, List.set_cons_succ, List.set_cons_zero]))
      refine rel.walk_nil ?_
      intro w9 K9 hF
      have hT : IsTr w9 (.pointer pt) L := hF _ (List.mem_cons_self ..)
      clear hF hlk c0 c1 e0 e1
      simp only [List.drop_succ_cons, List.drop_zero]
      obtain ⟨c0, c1⟩ := (hv.on K9).cells2
      obtain ⟨e0, e1⟩ := (hv2.on K9).cells2
      have hg9 := (hv.on K9).lt
      have hg29 := (hv2.on K9).lt
      go_wp2_with fail
      have hb0 : Below w9.heap.size w9 (w9.alloc (.cells #[.pointer pt, .pointer pu] tyR)) := (Below.refl _ _).alloc (Nat.le_refl _) _
      have hb1 := K9.trans (hb0.mono K9.size)
      go_roundg (many n)
      case measure => exact hm
      case rel => exact ⟨n, _, _, rfl, rfl, hn2, on, hdone.out _ _ _ hb1 (hp.Blk.newAt rfl) (hT.on hb0), hpm2, hw.trans (hb1.mono hw.size)⟩

/-- the trees of a row become one -/
theorem pairs_to {l : List Int} {r : Rw} {p : Option Addr} {w : World} (hr : Row w.heap.size w r p) (ho : Ok r) (hl : (nums r).Perm l) :
    Calls Try.prog 25 #[.pointer p] w fun e w' => (∃ u, e = .returned u ∧ IsRw w' u l) ∧ Below w.heap.size w w' :=
  (pairs_any hr ho).mono fun _ _ ⟨⟨u, he, h⟩, hb⟩ => ⟨⟨u, he, h.perm hl⟩, hb⟩
theorem all_to {l : List Int} {p : Option Addr} {w : World} (h : IsRw w (.pointer p) l) :
    Calls Try.prog 26 #[.pointer p] w fun e w' => (∃ u, e = .returned u ∧ IsTr w' u l) ∧ Below w.heap.size w w' := by
  obtain ⟨_, r, he, hr, ho, hl⟩ := h
  cases he
  exact (all_any hr ho).mono fun _ _ ⟨⟨u, he, h⟩, hb⟩ => ⟨⟨u, he, h.perm hl⟩, hb⟩
end Go.Proofs.Ytnfoadhhgonfkaa.par
