/- Package pair: two trees are linked; the trees of a row are linked in pairs, and all of them. -/
import Derived.Test.YtnfoadhhgonfkaaPar
namespace Go.Proofs.Ytnfoadhhgonfkaa.par
open Go Go.RowKit

set_option maxHeartbeats 8000000 in
theorem link_any {s t : Tr} {p q : Option Addr} {w : World} (h1 : Tre w.heap.size w s p) (h2 : Tre w.heap.size w t q) (o1 : TOk s) (o2 : TOk t) :
    Calls Try.prog 19 #[.pointer p, .pointer q] w fun e w' => (∃ u, e = .returned u ∧ IsTr w' u (tnums s ++ tnums t)) ∧ Below w.heap.size w w' := by
  rcases s with _ | ⟨x, b⟩
  · obtain rfl : p = none := h1
    have hd : IsTr w (.pointer q) (tnums none ++ tnums t) := ⟨q, t, rfl, h2, o2, List.Perm.refl _⟩
    clear h2
    go_enter Try.func19, Try.ntmps19
    go_wp2_with fail
    go_ret
    exact ⟨⟨_, rfl, hd⟩, Below.refl _ _⟩
  rcases t with _ | ⟨y, c⟩
  · obtain rfl : q = none := h2
    have hd : IsTr w (.pointer p) (tnums (some (x, b)) ++ tnums none) := ⟨p, _, rfl, h1, o1, by rw [show tnums none = [] from rfl, List.append_nil]⟩
    obtain ⟨g, c1, rfl, hg, hv, hb⟩ := h1
    clear o1 o2 hv hb
    go_enter Try.func19, Try.ntmps19
    go_wp2_with fail
    go_ret
    exact ⟨⟨_, rfl, hd⟩, Below.refl _ _⟩
  have t1 := h1
  have t2 := h2
  obtain ⟨g, cb, rfl, hg, hu, hb⟩ := h1
  obtain ⟨h, cc, rfl, hh, hv, hc⟩ := h2
  obtain ⟨c0, c1⟩ := hu.cells2
  obtain ⟨e0, e1⟩ := hv.cells2
  clear hu hv
  have hgo : ∀ (X Y : Int) (pb : Nat) (ca : Option Addr) (B C : Rw) (W : World) (G : Nat), (∀ z ∈ Y :: (nums B ++ nums C), X ≤ z) → Ok C → TOk (some (Y, B)) → (X :: (Y :: (nums B ++ nums C))).Perm (tnums (some (x, b)) ++ tnums (some (y, c))) → Tre w.heap.size w (some (Y, B)) (some ⟨pb, 0, none⟩) → Row w.heap.size w C ca → Below w.heap.size w W → hp.Blk W G tyR [.pointer (some ⟨pb, 0, none⟩), .pointer ca] →
      (∃ u, Ending.returned (.pointer (some ⟨W.heap.size, 0, none⟩)) = .returned u ∧ IsTr (W.alloc (.cells #[.int .i64 X, .pointer (some ⟨G, 0, none⟩)] tyT)) u (tnums (some (x, b)) ++ tnums (some (y, c)))) ∧
        Below w.heap.size w (W.alloc (.cells #[.int .i64 X, .pointer (some ⟨G, 0, none⟩)] tyT)) := by
    intro X Y pb ca B C W G hle hoC hoB hpm ht hr hW hG
    have hb : Below w.heap.size w (W.alloc (.cells #[.int .i64 X, .pointer (some ⟨G, 0, none⟩)] tyT)) := hW.alloc hW.size _
    refine ⟨⟨_, rfl, _, some (X, .cons Y B C), rfl, ?_, ⟨hle, hoB.1, hoB.2, hoC⟩, hpm⟩, hb⟩
    refine Tre.mk (c := some ⟨G, 0, none⟩) ?_ (Row.mk (hG.alloc _) (ht.on hb) (hr.on hb))
    exact hp.Blk.newAt (by simp)
  by_cases hlt : y < x
  · replace hgo := Lib.hid (fun W G => hgo y x g cc b c W G (by
      intro z hz
      rcases List.mem_cons.1 hz with rfl | hz
      · omega
      rcases List.mem_append.1 hz with hz | hz
      · have := o1.1 z hz; omega
      · exact o2.1 z hz) o2.2 o1 (by
      show (y :: (x :: nums b ++ nums c)).Perm ((x :: nums b) ++ (y :: nums c))
      exact List.perm_middle.symm) t1 hc)
    go_enter Try.func19, Try.ntmps19
    go_wp2_with fail
    go_big_region
    go_wp2_with fail
    apply rel.region_tail (C := fun w' => Below w.heap.size w w') (X := fun w w' => Below w.heap.size w w') 11 (by kernel_rfl) (by kernel_rfl) (by kernel_rfl) (by kernel_rfl) ((Below.refl _ _).drew.drew)
    iterate 10 ((apply rel.walk_val; (focus (intro wq hq hf; (have d0 := (hq.cell (p := ⟨g, 0, none⟩) hg).trans c0; have d1 := (hq.cell (p := ⟨g, 1, none⟩) hg).trans c1; have d2 := (hq.cell (p := ⟨h, 0, none⟩) hh).trans e0; have d3 := (hq.cell (p := ⟨h, 1, none⟩) hh).trans e1); go_wp2; refine ⟨hq, Below.refl _ _, ?_, rfl⟩; (show rel.slot _ _ = _; simp only [rel.slot_lit, List.getD_cons_succ, List.getD_cons_zero]; (first | done | exact rfl)))); (simp only [rel.put_lit, List.set_cons_succ, List.set_cons_zero])))
    (apply rel.walk_rel (fun u w' => ∃ γ, u = .pointer (some ⟨γ, 0, none⟩) ∧ hp.Blk w' γ tyR [.pointer (some ⟨g, 0, none⟩), .pointer cc]) ⟨_, rfl⟩ (fun u w1 w2 h1 h2 => by obtain ⟨γ, he, hk⟩ := h2; exact ⟨γ, he, hk.on h1⟩); (focus (intro wq hq hf; go_wp2; refine ⟨hq.alloc hq.size _, (Below.refl _ _).alloc (Nat.le_refl _) _, ?_, rfl⟩; (show ∃ γ, rel.slot _ _ = _ ∧ _; simp only [rel.slot_lit, List.getD_cons_succ, List.getD_cons_zero]; exact ⟨_, rfl, hp.Blk.new _ _ _⟩))); (intro u wu _ hu; obtain ⟨gu, rfl, -⟩ := hu; (simp only [rel.put_lit, List.set_cons_succ, List.set_cons_zero])))
    refine rel.walk_nil ?_
    intro w9 K9 hF
    obtain ⟨G, he, hu⟩ : ∃ G, Value.pointer (some ⟨gu, 0, none⟩) = .pointer (some ⟨G, 0, none⟩) ∧ hp.Blk w9 G tyR [.pointer (some ⟨g, 0, none⟩), .pointer cc] := hF _ (List.mem_cons_self ..)
    obtain rfl : gu = G := by simpa using he
    simp only [List.drop_succ_cons, List.drop_zero]
    go_wp2
    go_ret
    exact hgo.out _ _ K9 hu
  · replace hgo := Lib.hid (fun W G => hgo x y h cb c b W G (by
      intro z hz
      rcases List.mem_cons.1 hz with rfl | hz
      · omega
      rcases List.mem_append.1 hz with hz | hz
      · have := o2.1 z hz; omega
      · exact o1.1 z hz) o1.2 o2 (by
      show (x :: ((y :: nums c) ++ nums b)).Perm (x :: (nums b ++ (y :: nums c)))
      exact List.Perm.cons x List.perm_append_comm) t2 hb)
    have hlt2 : decide (y < x) = false := by simpa using hlt
    go_enter Try.func19, Try.ntmps19
    go_wp2_with fail
    go_big_region
    go_wp2_with fail
    apply rel.region_tail (C := fun w' => Below w.heap.size w w') (X := fun w w' => Below w.heap.size w w') 11 (by kernel_rfl) (by kernel_rfl) (by kernel_rfl) (by kernel_rfl) ((Below.refl _ _).drew.drew)
    iterate 10 ((apply rel.walk_val; (focus (intro wq hq hf; (have d0 := (hq.cell (p := ⟨g, 0, none⟩) hg).trans c0; have d1 := (hq.cell (p := ⟨g, 1, none⟩) hg).trans c1; have d2 := (hq.cell (p := ⟨h, 0, none⟩) hh).trans e0; have d3 := (hq.cell (p := ⟨h, 1, none⟩) hh).trans e1); go_wp2; refine ⟨hq, Below.refl _ _, ?_, rfl⟩; (show rel.slot _ _ = _; simp only [rel.slot_lit, List.getD_cons_succ, List.getD_cons_zero]; (first | done | exact rfl)))); (simp only [rel.put_lit, List.set_cons_succ, List.set_cons_zero])))
    (apply rel.walk_rel (fun u w' => ∃ γ, u = .pointer (some ⟨γ, 0, none⟩) ∧ hp.Blk w' γ tyR [.pointer (some ⟨h, 0, none⟩), .pointer cb]) ⟨_, rfl⟩ (fun u w1 w2 h1 h2 => by obtain ⟨γ, he, hk⟩ := h2; exact ⟨γ, he, hk.on h1⟩); (focus (intro wq hq hf; go_wp2; refine ⟨hq.alloc hq.size _, (Below.refl _ _).alloc (Nat.le_refl _) _, ?_, rfl⟩; (show ∃ γ, rel.slot _ _ = _ ∧ _; simp only [rel.slot_lit, List.getD_cons_succ, List.getD_cons_zero]; exact ⟨_, rfl, hp.Blk.new _ _ _⟩))); (intro u wu _ hu; obtain ⟨gu, rfl, -⟩ := hu; (simp only [rel.put_lit, List.set_cons_succ, List.set_cons_zero])))
    refine rel.walk_nil ?_
    intro w9 K9 hF
    obtain ⟨G, he, hu⟩ : ∃ G, Value.pointer (some ⟨gu, 0, none⟩) = .pointer (some ⟨G, 0, none⟩) ∧ hp.Blk w9 G tyR [.pointer (some ⟨h, 0, none⟩), .pointer cb] := hF _ (List.mem_cons_self ..)
    obtain rfl : gu = G := by simpa using he
    simp only [List.drop_succ_cons, List.drop_zero]
    go_wp2
    go_ret
    exact hgo.out _ _ K9 hu

/-- two trees are linked -/
theorem link_to {l m : List Int} {p q : Option Addr} {w : World} (h1 : IsTr w (.pointer p) l) (h2 : IsTr w (.pointer q) m) :
    Calls Try.prog 19 #[.pointer p, .pointer q] w fun e w' => (∃ u, e = .returned u ∧ IsTr w' u (l ++ m)) ∧ Below w.heap.size w w' := by
  obtain ⟨_, s, he, hn, ho, hl⟩ := h1
  obtain ⟨_, t, he2, hn2, ho2, hl2⟩ := h2
  cases he
  cases he2
  exact (link_any hn hn2 ho ho2).mono fun _ _ ⟨⟨u, he, h⟩, hb⟩ => ⟨⟨u, he, h.perm (hl.append hl2)⟩, hb⟩
end Go.Proofs.Ytnfoadhhgonfkaa.par
