/- Package bino: two trees of one rank are linked. -/
import Derived.Test.YtdbipbmdpgccnaaBino
namespace Go.Proofs.Ytdbipbmdpgccnaa.bin
open Go Go.RowKit

set_option maxHeartbeats 8000000 in
theorem link_any {x y : Int} {k : Nat} {b c : Rw} {p q : Option Addr} {w : World} (h1 : Tre w.heap.size w x k b p) (h2 : Tre w.heap.size w y k c q) (hk : k < 62) :
    Calls Try.prog 29 #[.pointer p, .pointer q] w fun e w' => (∃ u, e = .returned (.pointer u) ∧ Tre w'.heap.size w' (lnk x y k b c).1 (k + 1) (lnk x y k b c).2 u) ∧ Below w.heap.size w w' := by
  have t1 := h1
  have t2 := h2
  obtain ⟨g, cb, rfl, hg, hu, hb⟩ := h1
  obtain ⟨h, cc, rfl, hh, hv, hc⟩ := h2
  have c0 := hu.cell 0
  have c1 := hu.cell 1
  have c2 := hu.cell 2
  have e0 := hv.cell 0
  have e1 := hv.cell 1
  have e2 := hv.cell 2
  simp only [List.getElem?_cons_zero, List.getElem?_cons_succ] at c0 c1 c2 e0 e1 e2
  obtain ⟨K, hK⟩ : ∃ K : Int, (k : Int) = K := ⟨_, rfl⟩
  have hK0 : 0 ≤ K := by omega
  have hK1 : K < 62 := by omega
  rw [hK] at c1 e1
  clear hu hv
  have hkk : ((k + 1 : Nat) : Int) = K + 1 := by omega
  clear hk
  replace hkk := Lib.hid hkk
  replace hK := Lib.hid hK
  have hgo : ∀ (X Y : Int) (pb : Nat) (ca : Option Addr) (B C : Rw) (W : World) (G : Nat), lnk x y k b c = (X, .cons Y k B C) → Tre w.heap.size w Y k B (some ⟨pb, 0, none⟩) → Row w.heap.size w C ca → Below w.heap.size w W → hp.Blk W G tyR [.pointer (some ⟨pb, 0, none⟩), .pointer ca] →
      (∃ u, Ending.returned (.pointer (some ⟨W.heap.size, 0, none⟩)) = .returned (.pointer u) ∧ Tre (W.alloc (.cells #[.int .i64 X, .int .i64 (K + 1), .pointer (some ⟨G, 0, none⟩)] tyT)).heap.size (W.alloc (.cells #[.int .i64 X, .int .i64 (K + 1), .pointer (some ⟨G, 0, none⟩)] tyT)) (lnk x y k b c).1 (k + 1) (lnk x y k b c).2 u) ∧
        Below w.heap.size w (W.alloc (.cells #[.int .i64 X, .int .i64 (K + 1), .pointer (some ⟨G, 0, none⟩)] tyT)) := by
    intro X Y pb ca B C W G hl ht hr hW hG
    have hb : Below w.heap.size w (W.alloc (.cells #[.int .i64 X, .int .i64 (K + 1), .pointer (some ⟨G, 0, none⟩)] tyT)) := hW.alloc hW.size _
    refine ⟨⟨_, rfl, ?_⟩, hb⟩
    rw [hl]
    refine Tre.mk (c := some ⟨G, 0, none⟩) ?_ (Row.mk (hG.alloc _) (ht.on hb) (hr.on hb))
    rw [hkk.out]
    exact hp.Blk.newAt (by simp)
  by_cases hlt : y < x
  · have hl : lnk x y k b c = (y, .cons x k b c) := if_pos hlt
    replace hgo := Lib.hid (fun W G => hgo y x g cc b c W G hl t1 hc)
    clear hl
    go_enter Try.func29, Try.ntmps29
    go_wp2_with fail
    go_big_region
    go_wp2_with fail
    apply rel.region_tail (C := fun w' => Below w.heap.size w w') (X := fun w w' => Below w.heap.size w w') 16 (by kernel_rfl) (by kernel_rfl) (by kernel_rfl) (by kernel_rfl) ((Below.refl _ _).drew.drew)
    iterate 15 ((apply rel.walk_val; (focus (intro wq hq hf; (have d0 := (hq.cell (p := ⟨g, 0, none⟩) hg).trans c0; have d1 := (hq.cell (p := ⟨g, 1, none⟩) hg).trans c1; have d2 := (hq.cell (p := ⟨g, 2, none⟩) hg).trans c2; have d3 := (hq.cell (p := ⟨h, 0, none⟩) hh).trans e0; have d4 := (hq.cell (p := ⟨h, 1, none⟩) hh).trans e1; have d5 := (hq.cell (p := ⟨h, 2, none⟩) hh).trans e2); go_wp2; refine ⟨hq, Below.refl _ _, ?_, rfl⟩; (show rel.slot _ _ = _; simp only [rel.slot_lit, List.getD_cons_succ, List.getD_cons_zero]; (first | done | exact rfl)))); (simp only [rel.put_lit, List.set_cons_succ, List.set_cons_zero])))
    (apply rel.walk_rel (fun u w' => ∃ γ, u = .pointer (some ⟨γ, 0, none⟩) ∧ hp.Blk w' γ tyR [.pointer (some ⟨g, 0, none⟩), .pointer cc]) ⟨_, rfl⟩ (fun u w1 w2 h1 h2 => by obtain ⟨γ, he, hk⟩ := h2; exact ⟨γ, he, hk.on h1⟩); (focus (intro wq hq hf; go_wp2; refine ⟨hq.alloc hq.size _, (Below.refl _ _).alloc (Nat.le_refl _) _, ?_, rfl⟩; (show ∃ γ, rel.slot _ _ = _ ∧ _; simp only [rel.slot_lit, List.getD_cons_succ, List.getD_cons_zero]; exact ⟨_, rfl, hp.Blk.new _ _ _⟩))); (intro u wu _ hu; obtain ⟨gu, rfl, -⟩ := hu; (simp only [rel.put_lit, List.set_cons_succ, List.set_cons_zero])))
    refine rel.walk_nil ?_
    intro w9 K9 hF
    obtain ⟨G, he, hu⟩ : ∃ G, Value.pointer (some ⟨gu, 0, none⟩) = .pointer (some ⟨G, 0, none⟩) ∧ hp.Blk w9 G tyR [.pointer (some ⟨g, 0, none⟩), .pointer cc] := hF _ (List.mem_cons_self ..)
    obtain rfl : gu = G := by simpa using he
    simp only [List.drop_succ_cons, List.drop_zero]
    go_wp2
    go_ret
    exact hgo.out _ _ K9 hu
  · have hl : lnk x y k b c = (x, .cons y k c b) := if_neg hlt
    replace hgo := Lib.hid (fun W G => hgo x y h cb c b W G hl t2 hb)
    have hlt2 : decide (y < x) = false := by simpa using hlt
    clear hl
    go_enter Try.func29, Try.ntmps29
    go_wp2_with fail
    go_big_region
    go_wp2_with fail
    apply rel.region_tail (C := fun w' => Below w.heap.size w w') (X := fun w w' => Below w.heap.size w w') 16 (by kernel_rfl) (by kernel_rfl) (by kernel_rfl) (by kernel_rfl) ((Below.refl _ _).drew.drew)
    iterate 15 ((apply rel.walk_val; (focus (intro wq hq hf; (have d0 := (hq.cell (p := ⟨g, 0, none⟩) hg).trans c0; have d1 := (hq.cell (p := ⟨g, 1, none⟩) hg).trans c1; have d2 := (hq.cell (p := ⟨g, 2, none⟩) hg).trans c2; have d3 := (hq.cell (p := ⟨h, 0, none⟩) hh).trans e0; have d4 := (hq.cell (p := ⟨h, 1, none⟩) hh).trans e1; have d5 := (hq.cell (p := ⟨h, 2, none⟩) hh).trans e2); go_wp2; refine ⟨hq, Below.refl _ _, ?_, rfl⟩; (show rel.slot _ _ = _; simp only [rel.slot_lit, List.getD_cons_succ, List.getD_cons_zero]; (first | done | exact rfl)))); (simp only [rel.put_lit, List.set_cons_succ, List.set_cons_zero])))
    (apply rel.walk_rel (fun u w' => ∃ γ, u = .pointer (some ⟨γ, 0, none⟩) ∧ hp.Blk w' γ tyR [.pointer (some ⟨h, 0, none⟩), .pointer cb]) ⟨_, rfl⟩ (fun u w1 w2 h1 h2 => by obtain ⟨γ, he, hk⟩ := h2; exact ⟨γ, he, hk.on h1⟩); (focus (intro wq hq hf; go_wp2; refine ⟨hq.alloc hq.size _, (Below.refl _ _).alloc (Nat.le_refl _) _, ?_, rfl⟩; (show ∃ γ, rel.slot _ _ = _ ∧ _; simp only [rel.slot_lit, List.getD_cons_succ, List.getD_cons_zero]; exact ⟨_, rfl, hp.Blk.new _ _ _⟩))); (intro u wu _ hu; obtain ⟨gu, rfl, -⟩ := hu; (simp only [rel.put_lit, List.set_cons_succ, List.set_cons_zero])))
    refine rel.walk_nil ?_
    intro w9 K9 hF
    obtain ⟨G, he, hu⟩ : ∃ G, Value.pointer (some ⟨gu, 0, none⟩) = .pointer (some ⟨G, 0, none⟩) ∧ hp.Blk w9 G tyR [.pointer (some ⟨h, 0, none⟩), .pointer cb] := hF _ (List.mem_cons_self ..)
    obtain rfl : gu = G := by simpa using he
    simp only [List.drop_succ_cons, List.drop_zero]
    go_wp2
    go_ret
    exact hgo.out _ _ K9 hu
end Go.Proofs.Ytdbipbmdpgccnaa.bin
