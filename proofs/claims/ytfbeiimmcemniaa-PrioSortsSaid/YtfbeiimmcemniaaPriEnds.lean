/- Package measured: PushRight, PopLeft of a tree of items. -/
import Derived.Test.YtfbeiimmcemniaaPriTree
namespace Go.Proofs.Ytfbeiimmcemniaa.pri
open Go Go.RowKit

theorem keep_item {W : World} {g : Nat} {cs : List Value} (hg : hp.Blk W g 48 cs) (o : Nat) (v : Value) : Keep W (W.setCell ⟨g, o, none⟩ v) := Keep.of_set hg (by decide) (by decide) (by decide) v

set_option maxRecDepth 100000 in
set_option maxHeartbeats 4000000 in
theorem mPushRight_any {p : Option Addr} {l : List (Int × Int)} {w : World} (x : Int × Int) (L : List (Int × Int)) (h : IsL Any w (.pointer p) 0 l) (hx : rws.WfP x) (hL : l ++ [x] = L) (hbd : L.length ≤ 4611686018427387904) :
    Calls Try.prog 17 #[.agg #[.pointer p], .agg #[.int .i64 x.1, .int .i64 x.2]] w fun e w' => (∃ u, e = .returned u ∧ IsT w' u L) ∧ Below w.heap.size w w' := by
  obtain ⟨W, hW⟩ : ∃ W, ((w.alloc (.cells #[.pointer p] 27)).alloc (.cells #[.int .i64 x.1, .int .i64 x.2] 48)).alloc (.cells #[.pointer none] 27) = W := ⟨_, rfl⟩
  have hA : hp.Blk W w.heap.size 27 [.pointer p] := by rw [← hW]; exact ((hp.Blk.new w [.pointer p] _).alloc _).alloc _
  have hX : hp.Blk W (w.heap.size + 1) 48 [.int .i64 x.1, .int .i64 x.2] := by rw [← hW]; exact (hp.Blk.newAt (by simp)).alloc _
  have hR : hp.Blk W (w.heap.size + 1 + 1) 27 [.pointer none] := by rw [← hW]; exact hp.Blk.newAt (by simp)
  have hb : Below w.heap.size w W := by rw [← hW]; ((repeat' (first | with_reducible exact Below.refl _ _ | with_reducible apply Below.setCell | with_reducible apply below_drewN | with_reducible apply Below.drew | with_reducible apply Below.alloc | with_reducible refine Below.trans ?_ (Below.mono (by assumption) ?_))) <;> (first | (simp; done) | (simp; omega) | omega))
  have H1 := fun V => leaf_any (Q := Any) x V (any_ok V) hx
  have H2 := fun V (K : Below W.heap.size W V) (px : Option Addr) (hn : IsN Any V (.pointer px) 0 [x]) => push_r L (any_ok V) ((h.on hb).on K) hn hL hbd
  clear h hL hbd hx
  go_enter Try.func17, Try.ntmps17
  go_wp2_with fail
  clear hW
  apply rel.region_tail (C := fun w' => Below W.heap.size W w') (X := fun w w' => Below w.heap.size w w') 5 (by kernel_rfl) (by kernel_rfl) (by kernel_rfl) (by kernel_rfl) ((Below.refl _ _).drew)
  (apply rel.walk_val; (focus (intro wq hq hf; go_wp2; refine ⟨hq, Below.refl _ _, ?_, rfl⟩; (show rel.slot _ _ = _; simp only [rel.slot_lit, List.getD_cons_succ, List.getD_cons_zero]; (first | done | exact rfl)))); (simp only [rel.put_lit, List.set_cons_succ, List.set_cons_zero]))
  ((apply rel.walk_val; (focus (intro wq hq hf; (have d0 := (((hA).below hq (hA).lt)).cell 0; simp only [List.getElem?_cons_zero] at d0); go_wp2; refine ⟨hq, Below.refl _ _, ?_, rfl⟩; (show rel.slot _ _ = _; simp only [rel.slot_lit, List.getD_cons_succ, List.getD_cons_zero]; (first | done | exact rfl)))); (simp only [rel.put_lit, List.set_cons_succ, List.set_cons_zero])))
  ((apply rel.walk_val; (focus (intro wq hq hf; (obtain ⟨d0, d1⟩ := ((hX).below hq (hX).lt).cellsM); go_wp2; refine ⟨hq, Below.refl _ _, ?_, rfl⟩; (show rel.slot _ _ = _; simp only [rel.slot_lit, List.getD_cons_succ, List.getD_cons_zero]; (first | done | exact rfl)))); (simp only [rel.put_lit, List.set_cons_succ, List.set_cons_zero])))
  (apply rel.walk_rel (fun u w' => pri.IsN Any w' u (0) ([x])) ⟨_, rfl⟩ (fun u w1 w2 h1 h2 => h2.on h1); (focus (intro wq hq hf; go_wp2_with (go_at_call 24; with_reducible refine (H1 _).mono ?_; rintro e w'' ⟨⟨u, rfl, hu⟩, hb⟩); refine ⟨hq.trans (hb.mono hq.size), hb, ?_, rfl⟩; (show pri.IsN _ _ (rel.slot _ _) _ _; simp only [rel.slot_lit, List.getD_cons_succ, List.getD_cons_zero]; exact hu))); (intro u wu _ hu; obtain ⟨pn, t_pn, rfl, -⟩ := hu; (simp only [rel.put_lit, List.set_cons_succ, List.set_cons_zero])))
  (apply rel.walk_rel (fun u w' => pri.IsL Any w' u (0) (L)) ⟨_, rfl⟩ (fun u w1 w2 h1 h2 => h2.on h1); (focus (intro wq hq hf; go_wp2_with (go_at_call 23; with_reducible refine (H2 _ hq _ (hf.get 0 rfl rfl)).mono ?_; rintro e w'' ⟨⟨u, rfl, hu⟩, hb⟩); refine ⟨hq.trans (hb.mono hq.size), hb, ?_, rfl⟩; (show pri.IsL _ _ (rel.slot _ _) _ _; simp only [rel.slot_lit, List.getD_cons_succ, List.getD_cons_zero]; exact hu))); (intro u wu _ hu; obtain ⟨pu, t_pu, rfl, -⟩ := hu; (simp only [rel.put_lit, List.set_cons_succ, List.set_cons_zero])))
  (refine rel.walk_nil ?_; intro w9 K9 hF; have hu9 := hF _ (List.mem_cons_self ..); clear hF)
  have hR9 := hR.on K9
  have d0 := hR9.cell 0
  have df := hR9.free
  have f0 := (hR9.set 0 (.pointer pu)).cell 0
  simp only [List.getElem?_cons_zero, List.set_cons_zero] at d0 f0
  simp only [List.drop_succ_cons, List.drop_zero]
  go_wp2_with fail
  exact bodyPost_ret (v := .agg #[.pointer pu]) (by simp [results, Try.results17, go_sem, f0]) rfl ⟨⟨_, rfl, IsT.mk (hu9.keep (keep_mtree hR9 _ _))⟩, (hb.trans (K9.mono hb.size)).setCell (p := ⟨w.heap.size + 1 + 1, 0, none⟩) (by simp; omega) _⟩

theorem IsL.none_of {w : World} {p : Option Addr} (h : IsL Any w (.pointer p) 0 []) : p = none := by
  obtain ⟨_, t, e, h1, h2, h3⟩ := h
  cases e
  have ht : t = .nil := by
    cases t with
    | nil => rfl
    | one x => have := h2.pos; rw [show x.nums = [] from h3] at this; simp at this
    | deep a i b =>
      obtain ⟨⟨a1, _, ah⟩, _⟩ := h2
      have := ah.size
      have h4 : flat a ++ i.nums ++ flat b = [] := h3
      have h5 := congrArg List.length h4
      rw [List.length_append, List.length_append, List.length_nil] at h5
      simp at this
      omega
  subst ht
  exact h1

set_option maxRecDepth 100000 in
theorem mPopLeft_nil (w : World) : Calls Try.prog 19 #[.agg #[.pointer none]] w fun e w' => e = .returned (.tuple #[.agg #[.int .i64 0, .int .i64 0], .agg #[.pointer none], .bool false]) ∧ Below w.heap.size w w' := by
  obtain ⟨W, hW⟩ : ∃ W, (((w.alloc (.cells #[.pointer none] 27)).alloc (.cells #[.int .i64 0, .int .i64 0] 48)).alloc (.cells #[.pointer none] 27)).alloc (.cells #[.int .i64 0, .int .i64 0] 48) = W := ⟨_, rfl⟩
  have hX : hp.Blk W (w.heap.size + 1) 48 [.int .i64 0, .int .i64 0] := by rw [← hW]; exact ((hp.Blk.newAt (by simp)).alloc _).alloc _
  have hR : hp.Blk W (w.heap.size + 1 + 1) 27 [.pointer none] := by rw [← hW]; exact (hp.Blk.newAt (by simp)).alloc _
  have hZ : hp.Blk W (w.heap.size + 1 + 1 + 1) 48 [.int .i64 0, .int .i64 0] := by rw [← hW]; exact hp.Blk.newAt (by simp)
  have hb : Below w.heap.size w W := by rw [← hW]; ((repeat' (first | with_reducible exact Below.refl _ _ | with_reducible apply Below.setCell | with_reducible apply below_drewN | with_reducible apply Below.drew | with_reducible apply Below.alloc | with_reducible refine Below.trans ?_ (Below.mono (by assumption) ?_))) <;> (first | (simp; done) | (simp; omega) | omega))
  obtain ⟨x0, x1⟩ := hX.cellsM
  obtain ⟨z0, z1⟩ := hZ.cellsM
  have d0 := hR.cell 0
  have xf := hX.free
  have df := hR.free
  have lz := hZ.lt
  obtain ⟨y0, y1⟩ := ((hX.setM (.int .i64 0) (.int .i64 0)).other (a := ⟨w.heap.size + 1 + 1, 0, none⟩) (by simp) (.pointer none)).cellsM
  have f0 := (((hR.other (a := ⟨w.heap.size + 1, 0, none⟩) (by simp) (.int .i64 0)).other (a := ⟨w.heap.size + 1, 1, none⟩) (by simp) (.int .i64 0)).set 0 (.pointer none)).cell 0
  simp only [List.getElem?_cons_zero, List.set_cons_zero] at d0 f0
  go_enter Try.func19, Try.ntmps19
  go_wp2_with fail
  refine bodyPost_ret (v := .tuple #[.agg #[.int .i64 0, .int .i64 0], .agg #[.pointer none], .bool false]) (by simp [results, Try.results19, go_sem, f0, y0, y1]) rfl ⟨rfl, ?_⟩
  exact ((hb.setCell (p := ⟨w.heap.size + 1, 0, none⟩) (by simp) _).setCell (p := ⟨w.heap.size + 1, 1, none⟩) (by simp) _).setCell (p := ⟨w.heap.size + 1 + 1, 0, none⟩) (by simp; omega) _

set_option maxRecDepth 100000 in
set_option maxHeartbeats 4000000 in
theorem mPopLeft_any {p : Option Addr} {l L : List (Int × Int)} {x : Int × Int} {w : World} (h : IsL Any w (.pointer p) 0 L) (hL : x :: l = L) (hbd : L.length ≤ 4611686018427387904) :
    Calls Try.prog 19 #[.agg #[.pointer p]] w fun e w' => (∃ q, e = .returned (.tuple #[.agg #[.int .i64 x.1, .int .i64 x.2], .agg #[.pointer q], .bool true]) ∧ IsL Any w' (.pointer q) 0 l) ∧ Below w.heap.size w w' := by
  obtain ⟨_, t, e, h1, h2, h3⟩ := h
  cases e
  have ht : t ≠ .nil := by
    rintro rfl
    rw [← hL] at h3
    simp [Lv.nums] at h3
  obtain ⟨g0, _, _, _, rfl, hg0, -⟩ := h1.first ht
  obtain ⟨W, hW⟩ : ∃ W, ((w.alloc (.cells #[.pointer (some ⟨g0, 0, none⟩)] 27)).alloc (.cells #[.int .i64 0, .int .i64 0] 48)).alloc (.cells #[.pointer none] 27) = W := ⟨_, rfl⟩
  have hA : hp.Blk W w.heap.size 27 [.pointer (some ⟨g0, 0, none⟩)] := by rw [← hW]; exact ((hp.Blk.new w [.pointer (some ⟨g0, 0, none⟩)] _).alloc _).alloc _
  have hX : hp.Blk W (w.heap.size + 1) 48 [.int .i64 0, .int .i64 0] := by rw [← hW]; exact (hp.Blk.newAt (by simp)).alloc _
  have hR : hp.Blk W (w.heap.size + 1 + 1) 27 [.pointer none] := by rw [← hW]; exact hp.Blk.newAt (by simp)
  have hb : Below w.heap.size w W := by rw [← hW]; ((repeat' (first | with_reducible exact Below.refl _ _ | with_reducible apply Below.setCell | with_reducible apply below_drewN | with_reducible apply Below.drew | with_reducible apply Below.alloc | with_reducible refine Below.trans ?_ (Below.mono (by assumption) ?_))) <;> (first | (simp; done) | (simp; omega) | omega))
  have a0 := hA.cell 0
  have hlt := hA.lt
  simp only [List.getElem?_cons_zero] at a0
  have P : Calls Try.prog 27 #[.pointer (some ⟨g0, 0, none⟩)] W fun e w' => (∃ g q, e = .returned (.tuple #[.pointer (some ⟨g, 0, none⟩), .pointer q]) ∧ hp.Blk W g 69 (ncs [x] x (.slice none 0 0)) ∧ IsL Any w' (.pointer q) 0 l) ∧ Below W.heap.size W w' := by
    refine (popLeft_any t ht 0 _ W (any_ok W) (h1.on hb) h2 (by rw [h3]; exact hbd)).mono ?_
    rintro e w' ⟨⟨n, pn, v, X, he, hn, hh, hx, hX⟩, hbw⟩
    obtain ⟨y, rfl⟩ : ∃ y, n = .leaf y := by
      cases n with
      | leaf y => exact ⟨y, rfl⟩
      | two a b => exact hh.elim
      | tri a b c => exact hh.elim
    obtain ⟨g, rfl, -, hk⟩ := hn
    obtain ⟨q, t', rfl, hq⟩ := hx
    rw [h3, ← hL, show (Nd.leaf y).nums = [y] from rfl] at hX
    have e2 : y = x ∧ X = l := by
      simpa using hX
    obtain ⟨rfl, rfl⟩ := e2
    exact ⟨⟨g, q, he, hk, q, t', rfl, hq⟩, hbw⟩
  clear h1 h2 h3 ht hL hA hbd
  go_enter Try.func19, Try.ntmps19
  go_wp2_with (go_at_call 27; (with_reducible refine P.mono ?_); clear P; rintro e w9 ⟨⟨g, q, rfl, hk, hq⟩, K9⟩; have hk9 := hk.on K9; have c5 := hk9.cell 2; have c5a := hk9.cell 3; have hlk := hk9.lt; have hX9 := hX.on K9; (obtain ⟨x0, x1⟩ := hX9.cellsM); have xf := hX9.free; have hR9 := hR.on K9; have d0 := hR9.cell 0; have df := hR9.free; simp only [List.getElem?_cons_zero, List.getElem?_cons_succ, List.set_cons_zero] at c5 c5a d0)
  obtain ⟨y0, y1⟩ := ((hX9.setM (.int .i64 x.1) (.int .i64 x.2)).other (a := ⟨w.heap.size + 1 + 1, 0, none⟩) (by simp) (.pointer q)).cellsM
  have f0 := (((hR9.other (a := ⟨w.heap.size + 1, 0, none⟩) (by simp) (.int .i64 x.1)).other (a := ⟨w.heap.size + 1, 1, none⟩) (by simp) (.int .i64 x.2)).set 0 (.pointer q)).cell 0
  simp only [List.getElem?_cons_zero, List.set_cons_zero] at f0
  have hb9 := hb.trans (K9.mono hb.size)
  exact bodyPost_ret (v := .tuple #[.agg #[.int .i64 x.1, .int .i64 x.2], .agg #[.pointer q], .bool true]) (by simp [results, Try.results19, go_sem, f0, y0, y1]) rfl ⟨⟨_, rfl, ((hq.keep (keep_item hX9 _ _)).keep (keep_item (hX9.set 0 _) _ _)).keep (keep_mtree ((hR9.other (by simp) _).other (by simp) _) _ _)⟩, ((hb9.setCell (p := ⟨w.heap.size + 1, 0, none⟩) (by simp) _).setCell (p := ⟨w.heap.size + 1, 1, none⟩) (by simp) _).setCell (p := ⟨w.heap.size + 1 + 1, 0, none⟩) (by simp; omega) _⟩
end Go.Proofs.Ytfbeiimmcemniaa.pri
