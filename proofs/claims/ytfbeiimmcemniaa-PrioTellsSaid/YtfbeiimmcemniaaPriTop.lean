/- Package prio: Top, Pop. -/
import Derived.Test.YtfbeiimmcemniaaPriQue
import Derived.Test.YtfbeiimmcemniaaPriRef
import Derived.Test.YtfbeiimmcemniaaRelFew
namespace Go.Proofs.Ytfbeiimmcemniaa.pri
open Go Go.RowKit Go.Proofs.Ytfbeiimmcemniaa.rws

theorem le_top : ∀ {l : List (Int × Int)} {x : Int × Int}, x ∈ l → x.1 ≤ topOf l
  | y :: l, x, h => by
    show x.1 ≤ max y.1 (topOf l)
    rcases List.mem_cons.1 h with rfl | h
    · omega
    · have := le_top h; omega
/-- what is taken: the first greatest one, or nothing -/
def Found (L X : List (Int × Int)) (x : Int × Int) (Z : List (Int × Int)) (fl : Bool) : Prop := (fl = true ∧ X ++ x :: Z = L ∧ Topped X x Z) ∨ (fl = false ∧ L = [] ∧ X = [] ∧ x = (0, 0) ∧ Z = [])
theorem cut_top {L X Y X' Z : List (Int × Int)} {x : Int × Int} (hwf : ∀ y ∈ L, WfP y) (hc : Cut (isTop (topOf L)) L X' Y) (h : Topped X x Z) (e : X ++ x :: Z = L) : X' = X ∧ Y = x :: Z := by
  obtain ⟨e1, c1, -, c3⟩ := hc
  by_cases h0 : isTop (topOf L) [] = true
  · obtain rfl := c1 h0
    rw [List.nil_append] at e1
    subst e1
    have ht : (-9223372036854775808 : Int) = topOf Y := by simpa [isTop, topOf] using h0
    obtain ⟨y, l, rfl⟩ : ∃ y l, Y = y :: l := by
      cases Y with
      | nil => simp at e
      | cons y l => exact ⟨y, l, rfl⟩
    have h2 := (hwf y (List.mem_cons_self ..)).1
    simp only [Lit.wf, IntKind.min, IntKind.max, IntKind.signed, IntKind.bits, Bool.and_eq_true, decide_eq_true_eq] at h2
    simp at h2
    have hT : Topped [] y l := ⟨by simp, fun u hu => by have := le_top (List.mem_cons_of_mem y hu); omega⟩
    obtain ⟨rfl, rfl, rfl⟩ := h.one hT (by simpa using e)
    exact ⟨rfl, rfl⟩
  · have h0' : isTop (topOf L) [] = false := by simpa using h0
    obtain ⟨d1, x', Z', rfl, d2⟩ := c3 h0' (by simp [isTop])
    have h0n : (-9223372036854775808 : Int) ≠ topOf L := by simpa [isTop, topOf] using h0'
    have d1' : topOf X' ≠ topOf L := by simpa [isTop] using d1
    have d2' : max (topOf X') (max x'.1 (-9223372036854775808)) = topOf L := by
      have : topOf (X' ++ [x']) = topOf L := by simpa [isTop] using d2
      rw [← this, topOf_app]
      rfl
    have hx : x'.1 = topOf L := by omega
    have hT : Topped X' x' Z' := by
      refine ⟨fun u hu => ?_, fun u hu => ?_⟩
      · have := le_top hu; omega
      · rw [hx]
        exact le_top (e1 ▸ List.mem_append_right _ (List.mem_cons_of_mem _ hu))
    obtain ⟨rfl, rfl, rfl⟩ := h.one hT (e.trans e1.symm)
    exact ⟨rfl, rfl⟩

/-- what stands behind, in memory -/
def Rest (w : World) (b : Option Addr) (x : Int × Int) (Z : List (Int × Int)) (fl : Bool) : Prop := (fl = true ∧ IsL Any w (.pointer b) 0 (x :: Z)) ∨ (fl = false ∧ b = none ∧ x = (0, 0) ∧ Z = [])
theorem Rest.on {w w' : World} {b : Option Addr} {x : Int × Int} {Z : List (Int × Int)} {fl : Bool} (h : Rest w b x Z fl) (hb : Below w.heap.size w w') : Rest w' b x Z fl := h.imp (fun ⟨a, c⟩ => ⟨a, c.on hb⟩) id
theorem rest_pop {b : Option Addr} {x : Int × Int} {Z : List (Int × Int)} {fl : Bool} {w : World} (h : Rest w b x Z fl) (hbd : Z.length + 1 ≤ 4611686018427387904) :
    Calls Try.prog 19 #[.agg #[.pointer b]] w fun e w' => (∃ q, e = .returned (.tuple #[.agg #[.int .i64 x.1, .int .i64 x.2], .agg #[.pointer q], .bool fl]) ∧ IsL Any w' (.pointer q) 0 Z) ∧ Below w.heap.size w w' := by
  rcases h with ⟨rfl, h⟩ | ⟨rfl, rfl, rfl, rfl⟩
  · exact mPopLeft_any h rfl (by simpa using hbd)
  · exact (mPopLeft_nil w).mono fun e w' ⟨he, hb⟩ => ⟨⟨none, he, IsL.nil _ _ _⟩, hb⟩
theorem before_rest {u : Value} {L X Z : List (Int × Int)} {x : Int × Int} {fl : Bool} (w : World) (h : IsT w u L) (hf : Found L X x Z fl) (hbd : L.length ≤ 4611686018427387904) :
    Calls Try.prog 18 #[u] w fun e w' => (∃ a b, e = .returned (.tuple #[.agg #[.pointer a], .agg #[.pointer b]]) ∧ IsL Any w' (.pointer a) 0 X ∧ Rest w' b x Z fl) ∧ Below w.heap.size w w' := by
  refine (before_any u L w h hbd).mono ?_
  rintro e w' ⟨⟨a, b, X', Y, rfl, ha, hb, hc⟩, hk⟩
  refine ⟨⟨a, b, rfl, ?_⟩, hk⟩
  rcases hf with ⟨rfl, e, hT⟩ | ⟨rfl, rfl, rfl, rfl, rfl⟩
  · obtain ⟨rfl, rfl⟩ := cut_top h.wf hc hT e
    exact ⟨ha, .inl ⟨rfl, hb⟩⟩
  · obtain ⟨rfl, rfl⟩ := List.append_eq_nil_iff.1 hc.1
    exact ⟨ha, .inr ⟨rfl, hb.none_of, rfl, rfl⟩⟩
theorem Found.len {L X Z : List (Int × Int)} {x : Int × Int} {fl : Bool} (h : Found L X x Z fl) : (X ++ Z).length ≤ L.length ∧ Z.length ≤ L.length ∧ (Z.length + 1 ≤ L.length ∨ Z = []) := by
  rcases h with ⟨rfl, rfl, -⟩ | ⟨rfl, rfl, rfl, rfl, rfl⟩
  · refine ⟨by simp, by simp <;> omega, .inl (by simp <;> omega)⟩
  · simp

set_option maxRecDepth 100000 in
set_option maxHeartbeats 4000000 in
theorem top_any {u : Value} {L X Z : List (Int × Int)} {x : Int × Int} {fl : Bool} (w : World) (h : IsT w u L) (hf : Found L X x Z fl) (hbd : L.length ≤ 4611686018427387904) :
    Calls Try.prog 10 #[u] w fun e w' => e = .returned (.tuple #[.agg #[.int .i64 x.1, .int .i64 x.2], .bool fl]) ∧ Below w.heap.size w w' := by
  obtain ⟨p, rfl⟩ := h.val
  obtain ⟨W, hW⟩ : ∃ W, (w.alloc (.cells #[.pointer p] 29)).alloc (.cells #[.int .i64 0, .int .i64 0] 32) = W := ⟨_, rfl⟩
  have hA : hp.Blk W w.heap.size 29 [.pointer p] := by rw [← hW]; exact (hp.Blk.new w [.pointer p] _).alloc _
  have hR : hp.Blk W (w.heap.size + 1) 32 [.int .i64 0, .int .i64 0] := by rw [← hW]; exact hp.Blk.newAt (by simp)
  have hb : Below w.heap.size w W := by rw [← hW]; ((repeat' (first | with_reducible exact Below.refl _ _ | with_reducible apply Below.setCell | with_reducible apply below_drewN | with_reducible apply Below.drew | with_reducible apply Below.alloc | with_reducible refine Below.trans ?_ (Below.mono (by assumption) ?_))) <;> (first | (simp; done) | (simp; omega) | omega))
  have a0 := hA.cell 0
  have hlt := hA.lt
  simp only [List.getElem?_cons_zero] at a0
  have H := before_rest W (h.on hb) hf hbd
  have hz : Z.length + 1 ≤ 4611686018427387904 := by
    rcases hf.len.2.2 with h | h
    · omega
    · rw [h]; simp
  clear h hf hbd hA
  go_enter Try.func10, Try.ntmps10
  go_wp2_with (first
    | (go_at_call 18; (with_reducible refine H.mono ?_); clear H; rintro e w1 ⟨⟨a, b, rfl, ha, hr⟩, K1⟩; have hv1 : Below w1.heap.size w1 ((w1.alloc (.cells #[.pointer a] 27)).alloc (.cells #[.pointer b] 27)) := (by ((repeat' (first | with_reducible exact Below.refl _ _ | with_reducible apply Below.setCell | with_reducible apply below_drewN | with_reducible apply Below.drew | with_reducible apply Below.alloc | with_reducible refine Below.trans ?_ (Below.mono (by assumption) ?_))) <;> (first | (simp; done) | (simp; omega) | omega))); have hB1 : hp.Blk ((w1.alloc (.cells #[.pointer a] 27)).alloc (.cells #[.pointer b] 27)) (w1.heap.size + 1) 27 [.pointer b] := hp.Blk.newAt (by simp); have b0 := hB1.cell 0; have lB := hB1.lt; simp only [List.getElem?_cons_zero] at b0; have P := rest_pop (hr.on hv1) hz; have hR1 := (hR.on K1).on hv1; have hb1 := (hb.trans (K1.mono hb.size)).trans (hv1.mono (Nat.le_trans hb.size K1.size)); clear hr ha)
    | (go_at_call 19; (with_reducible refine P.mono ?_); clear P; rintro e w2 ⟨⟨q, rfl, -⟩, K2⟩; have hv2 : Below w2.heap.size w2 ((w2.alloc (.cells #[.int .i64 x.1, .int .i64 x.2] 48)).alloc (.cells #[.pointer q] 27)) := (by ((repeat' (first | with_reducible exact Below.refl _ _ | with_reducible apply Below.setCell | with_reducible apply below_drewN | with_reducible apply Below.drew | with_reducible apply Below.alloc | with_reducible refine Below.trans ?_ (Below.mono (by assumption) ?_))) <;> (first | (simp; done) | (simp; omega) | omega))); have hX2 : hp.Blk ((w2.alloc (.cells #[.int .i64 x.1, .int .i64 x.2] 48)).alloc (.cells #[.pointer q] 27)) w2.heap.size 48 [.int .i64 x.1, .int .i64 x.2] := (hp.Blk.new w2 [.int .i64 x.1, .int .i64 x.2] _).alloc _; (obtain ⟨x0, x1⟩ := hX2.cellsM); have lX := hX2.lt; have hR2 := (hR1.on K2).on hv2; (obtain ⟨d0, d1⟩ := hR2.cellsM); have df := hR2.free; have hb2 := (hb1.trans (K2.mono hb1.size)).trans (hv2.mono (Nat.le_trans hb1.size K2.size))))
  obtain ⟨f0, f1⟩ := (hR2.setM (.int .i64 x.1) (.int .i64 x.2)).cellsM
  exact bodyPost_ret (v := .tuple #[.agg #[.int .i64 x.1, .int .i64 x.2], .bool fl]) (by simp [results, Try.results10, go_sem, f0, f1]) rfl ⟨rfl, (hb2.setCell (p := ⟨w.heap.size + 1, 0, none⟩) (by simp) _).setCell (p := ⟨w.heap.size + 1, 1, none⟩) (by simp) _⟩

set_option maxRecDepth 100000 in
set_option maxHeartbeats 8000000 in
theorem pop_any {u : Value} {L X Z : List (Int × Int)} {x : Int × Int} {fl : Bool} (w : World) (h : IsT w u L) (hf : Found L X x Z fl) (hbd : L.length ≤ 4611686018427387904) (T : List (Int × Int)) (hT : X ++ Z = T) :
    Calls Try.prog 11 #[u] w fun e w' => (∃ q, e = .returned (.tuple #[.agg #[.int .i64 x.1, .int .i64 x.2], .agg #[.pointer q], .bool fl]) ∧ IsT w' (.agg #[.pointer q]) T) ∧ Below w.heap.size w w' := by
  obtain ⟨p, rfl⟩ := h.val
  obtain ⟨W, hW⟩ : ∃ W, ((w.alloc (.cells #[.pointer p] 29)).alloc (.cells #[.int .i64 0, .int .i64 0] 32)).alloc (.cells #[.pointer none] 29) = W := ⟨_, rfl⟩
  have hA : hp.Blk W w.heap.size 29 [.pointer p] := by rw [← hW]; exact ((hp.Blk.new w [.pointer p] _).alloc _).alloc _
  have hR : hp.Blk W (w.heap.size + 1) 32 [.int .i64 0, .int .i64 0] := by rw [← hW]; exact (hp.Blk.newAt (by simp)).alloc _
  have hS : hp.Blk W (w.heap.size + 1 + 1) 29 [.pointer none] := by rw [← hW]; exact hp.Blk.newAt (by simp)
  have hb : Below w.heap.size w W := by rw [← hW]; ((repeat' (first | with_reducible exact Below.refl _ _ | with_reducible apply Below.setCell | with_reducible apply below_drewN | with_reducible apply Below.drew | with_reducible apply Below.alloc | with_reducible refine Below.trans ?_ (Below.mono (by assumption) ?_))) <;> (first | (simp; done) | (simp; omega) | omega))
  have a0 := hA.cell 0
  have hlt := hA.lt
  simp only [List.getElem?_cons_zero] at a0
  have H := before_rest W (h.on hb) hf hbd
  have hz : Z.length + 1 ≤ 4611686018427387904 := by
    rcases hf.len.2.2 with h | h
    · omega
    · rw [h]; simp
  have hTl : T.length ≤ 4611686018427387904 := by have := hf.len.1; rw [hT] at this; omega
  clear h hf hbd hA
  go_enter Try.func11, Try.ntmps11
  go_wp2_with (first
    | (go_at_call 18; (with_reducible refine H.mono ?_); clear H; rintro e w1 ⟨⟨a, b, rfl, ha, hr⟩, K1⟩; have hv1 : Below w1.heap.size w1 ((w1.alloc (.cells #[.pointer a] 27)).alloc (.cells #[.pointer b] 27)) := (by ((repeat' (first | with_reducible exact Below.refl _ _ | with_reducible apply Below.setCell | with_reducible apply below_drewN | with_reducible apply Below.drew | with_reducible apply Below.alloc | with_reducible refine Below.trans ?_ (Below.mono (by assumption) ?_))) <;> (first | (simp; done) | (simp; omega) | omega))); have hA1 : hp.Blk ((w1.alloc (.cells #[.pointer a] 27)).alloc (.cells #[.pointer b] 27)) w1.heap.size 27 [.pointer a] := (hp.Blk.new w1 [.pointer a] _).alloc _; have hB1 : hp.Blk ((w1.alloc (.cells #[.pointer a] 27)).alloc (.cells #[.pointer b] 27)) (w1.heap.size + 1) 27 [.pointer b] := hp.Blk.newAt (by simp); have b0 := hB1.cell 0; have lB := hB1.lt; simp only [List.getElem?_cons_zero] at b0; have P := rest_pop (hr.on hv1) hz; have ha1 := ha.on hv1; have hR1 := (hR.on K1).on hv1; have hS1 := (hS.on K1).on hv1; have hb1 := (hb.trans (K1.mono hb.size)).trans (hv1.mono (Nat.le_trans hb.size K1.size)); clear hr ha)
    | (go_at_call 19; (with_reducible refine P.mono ?_); clear P; rintro e w2 ⟨⟨q, rfl, hq⟩, K2⟩; have hv2 : Below w2.heap.size w2 ((w2.alloc (.cells #[.int .i64 x.1, .int .i64 x.2] 48)).alloc (.cells #[.pointer q] 27)) := (by ((repeat' (first | with_reducible exact Below.refl _ _ | with_reducible apply Below.setCell | with_reducible apply below_drewN | with_reducible apply Below.drew | with_reducible apply Below.alloc | with_reducible refine Below.trans ?_ (Below.mono (by assumption) ?_))) <;> (first | (simp; done) | (simp; omega) | omega))); have hX2 : hp.Blk ((w2.alloc (.cells #[.int .i64 x.1, .int .i64 x.2] 48)).alloc (.cells #[.pointer q] 27)) w2.heap.size 48 [.int .i64 x.1, .int .i64 x.2] := (hp.Blk.new w2 [.int .i64 x.1, .int .i64 x.2] _).alloc _; have hQ2 : hp.Blk ((w2.alloc (.cells #[.int .i64 x.1, .int .i64 x.2] 48)).alloc (.cells #[.pointer q] 27)) (w2.heap.size + 1) 27 [.pointer q] := hp.Blk.newAt (by simp); have hA2 := (hA1.on K2).on hv2; have ha2 := (ha1.on K2).on hv2; have hq2 := hq.on hv2; have hR2 := (hR1.on K2).on hv2; have hS2 := (hS1.on K2).on hv2; have hb2 := (hb1.trans (K2.mono hb1.size)).trans (hv2.mono (Nat.le_trans hb1.size K2.size))))
  obtain ⟨V, hV⟩ : ∃ V, (w2.alloc (.cells #[.int .i64 x.1, .int .i64 x.2] 48)).alloc (.cells #[.pointer q] 27) = V := ⟨_, rfl⟩
  rw [hV] at hX2 hQ2 hA2 ha2 hq2 hR2 hS2 hb2 ⊢
  clear hV hv2 hq hR1 hS1 ha1 hb1 hA1 hB1 b0 lB hv1 K1 K2 hR hS hb a0 hlt hW hz
  have J := fun U (K : Below V.heap.size V U) => mJoin_any T (ha2.on K) (hq2.on K) hT hTl
  generalize w1.heap.size = g5 at *
  generalize w2.heap.size = g7 at *
  apply rel.region_few (C := fun w' => Below V.heap.size V w') (X := fun w w' => Below w.heap.size w w') 6 [4, 5] (by kernel_rfl) (by kernel_rfl) (by kernel_rfl) (by kernel_rfl) ((Below.refl _ _).drew)
  ((apply rel.walk_val; (focus (intro wq hq hf; (obtain ⟨d0, d1⟩ := ((hX2).below hq (hX2).lt).cellsM); go_wp2; refine ⟨hq, Below.refl _ _, ?_, rfl⟩; (show rel.slot _ _ = _; simp only [rel.slot_lit, List.getD_cons_succ, List.getD_cons_zero]; (first | done | exact rfl)))); (simp only [rel.put_lit, List.set_cons_succ, List.set_cons_zero])))
  ((apply rel.walk_val; (focus (intro wq hq hf; (have d0 := (((hA2).below hq (hA2).lt)).cell 0; simp only [List.getElem?_cons_zero] at d0); go_wp2; refine ⟨hq, Below.refl _ _, ?_, rfl⟩; (show rel.slot _ _ = _; simp only [rel.slot_lit, List.getD_cons_succ, List.getD_cons_zero]; (first | done | exact rfl)))); (simp only [rel.put_lit, List.set_cons_succ, List.set_cons_zero])))
  ((apply rel.walk_val; (focus (intro wq hq hf; (have d0 := (((hQ2).below hq (hQ2).lt)).cell 0; simp only [List.getElem?_cons_zero] at d0); go_wp2; refine ⟨hq, Below.refl _ _, ?_, rfl⟩; (show rel.slot _ _ = _; simp only [rel.slot_lit, List.getD_cons_succ, List.getD_cons_zero]; (first | done | exact rfl)))); (simp only [rel.put_lit, List.set_cons_succ, List.set_cons_zero])))
  (apply rel.walk_rel (fun u w' => pri.IsT w' u T) ⟨_, rfl⟩ (fun u w1 w2 h1 h2 => h2.on h1); (focus (intro wq hq hf; go_wp2_with (go_at_call 20; with_reducible refine (J _ hq).mono ?_; rintro e w'' ⟨⟨u, rfl, hu⟩, hb⟩); refine ⟨hq.trans (hb.mono hq.size), hb, ?_, rfl⟩; (show pri.IsT _ (rel.slot _ _) _; simp only [rel.slot_lit, List.getD_cons_succ, List.getD_cons_zero]; exact hu))); (intro u wu _ hu; obtain ⟨r0, rfl, -⟩ := hu; (simp only [rel.put_lit, List.set_cons_succ, List.set_cons_zero])))
  (apply rel.walk_rel (fun u w' => pri.IsT w' u T) ⟨_, rfl⟩ (fun u w1 w2 h1 h2 => h2.on h1); (focus (intro wq hq hf; have h0 := hf.get 0 rfl rfl; go_wp2; refine ⟨hq, Below.refl _ _, ?_, rfl⟩; (show pri.IsT _ (rel.slot _ _) _; simp only [rel.slot_lit, List.getD_cons_succ, List.getD_cons_zero]; exact h0))); (intro u wu _ hu; obtain ⟨r, rfl, -⟩ := hu; (simp only [rel.put_lit, List.set_cons_succ, List.set_cons_zero])))
  (apply rel.walk_val; (focus (intro wq hq hf; go_wp2; refine ⟨hq, Below.refl _ _, ?_, rfl⟩; (show rel.slot _ _ = _; simp only [rel.slot_lit, List.getD_cons_succ, List.getD_cons_zero]; (first | done | exact rfl)))); (simp only [rel.put_lit, List.set_cons_succ, List.set_cons_zero]))
  refine rel.walk_nil ?_
  intro w9 K9 hF
  have hu : IsT w9 (.agg #[.pointer r]) T := hF _ (List.mem_cons_self ..)
  clear hF J
  have hR9 := hR2.on K9
  have hS9 := hS2.on K9
  obtain ⟨d0, d1⟩ := hR9.cellsM
  have df := hR9.free
  have s0 := hS9.cell 0
  have sf := hS9.free
  simp only [List.getElem?_cons_zero] at s0
  obtain ⟨y0, y1⟩ := ((hR9.setM (.int .i64 x.1) (.int .i64 x.2)).other (a := ⟨w.heap.size + 1 + 1, 0, none⟩) (by simp) (.pointer r)).cellsM
  have f0 := (((hS9.other (a := ⟨w.heap.size + 1, 0, none⟩) (by simp) (.int .i64 x.1)).other (a := ⟨w.heap.size + 1, 1, none⟩) (by simp) (.int .i64 x.2)).set 0 (.pointer r)).cell 0
  simp only [List.getElem?_cons_zero, List.set_cons_zero] at f0
  have hb9 := hb2.trans (K9.mono hb2.size)
  simp only [List.drop_succ_cons, List.drop_zero]
  go_wp2_with fail
  · exact bodyPost_ret (v := .tuple #[.agg #[.int .i64 x.1, .int .i64 x.2], .agg #[.pointer r], .bool fl]) (by simp [results, Try.results11, go_sem, f0, y0, y1]) rfl ⟨⟨r, rfl, ((hu.keep (keep_aitem hR9 _ _)).keep (keep_aitem (hR9.set 0 _) _ _)).keep (keep_queue ((hS9.other (by simp) _).other (by simp) _) _ _)⟩, ((hb9.setCell (p := ⟨w.heap.size + 1, 0, none⟩) (by simp) _).setCell (p := ⟨w.heap.size + 1, 1, none⟩) (by simp) _).setCell (p := ⟨w.heap.size + 1 + 1, 0, none⟩) (by simp; omega) _⟩
  intro i0 hi0
  rcases List.mem_cons.1 hi0 with rfl | hi0
  · refine ⟨_, _, rfl, rfl, (by intro v c a w h; exact h), fun listed a' w' hJ hr => ?_⟩
    obtain ⟨_, o, ho, hall⟩ := mem_ready.1 hr
    simp at ho
    subst ho
    have h6 := hall { on := 3, ground := Ground.data } (by simp) (by decide)
    have h7 := hJ.done 3 _ 24 _ (by decide) rfl rfl h6 rfl
    obtain ⟨r, he, h8⟩ := h7
    refine ⟨.agg #[.pointer r], Or.inl ⟨rfl, fun w => ?_⟩, ⟨r, rfl, h8⟩⟩
    rw [Array.getD_eq_getD_getElem?] at he
    simp [execOp, he, go_sem]
  · obtain rfl : i0 = 5 := by simpa using hi0
    refine ⟨_, _, rfl, rfl, (by intro v c a w h; exact h), fun listed a' w' hJ hr => ⟨.bool fl, Or.inl ⟨rfl, fun w => ?_⟩, rfl⟩⟩
    have h9 := hJ.other 9 (by
      intro j o hj ho _ hd
      match j, hj with
      | 0, _ => simp at ho; subst ho; simp at hd
      | 1, _ => simp at ho; subst ho; simp at hd
      | 2, _ => simp at ho; subst ho; simp at hd
      | 3, _ => simp at ho; subst ho; simp at hd
      | 4, _ => simp at ho; subst ho; simp at hd
      | 5, _ => simp at ho; subst ho; simp at hd)
    simp at h9
    simp [execOp, h9, go_sem]
end Go.Proofs.Ytfbeiimmcemniaa.pri
