/- Package prio: Push, Len, Join, what stands before the greatest rank. -/
import Derived.Test.YtfbeiimmcemniaaPriEnds
import Derived.Test.YtfbeiimmcemniaaPriSplit4
namespace Go.Proofs.Ytfbeiimmcemniaa.pri
open Go Go.RowKit

theorem keep_queue {W : World} {g : Nat} {cs : List Value} (hg : hp.Blk W g 29 cs) (o : Nat) (v : Value) : Keep W (W.setCell ⟨g, o, none⟩ v) := Keep.of_set hg (by decide) (by decide) (by decide) v
theorem keep_aitem {W : World} {g : Nat} {cs : List Value} (hg : hp.Blk W g 32 cs) (o : Nat) (v : Value) : Keep W (W.setCell ⟨g, o, none⟩ v) := Keep.of_set hg (by decide) (by decide) (by decide) v
theorem field_n (a b : Int) (W : World) : Sem.run Try.prog (Instr.field 50 (mv a b) 0) W = .ok (.int .i64 a) W := by kernel_rfl
theorem field_r (a b : Int) (W : World) : Sem.run Try.prog (Instr.field 50 (mv a b) 1) W = .ok (.int .i64 b) W := by kernel_rfl

set_option maxRecDepth 100000 in
theorem push_any {u : Value} {l : List (Int × Int)} {w : World} (x : Int × Int) (L : List (Int × Int)) (h : IsT w u l) (hx : rws.WfP x) (hL : l ++ [x] = L) (hbd : L.length ≤ 4611686018427387904) :
    Calls Try.prog 8 #[u, .agg #[.int .i64 x.1, .int .i64 x.2]] w fun e w' => (∃ u, e = .returned u ∧ IsT w' u L) ∧ Below w.heap.size w w' := by
  obtain ⟨p, rfl, h⟩ := h
  obtain ⟨W, hW⟩ : ∃ W, ((w.alloc (.cells #[.pointer p] 29)).alloc (.cells #[.int .i64 x.1, .int .i64 x.2] 32)).alloc (.cells #[.pointer none] 29) = W := ⟨_, rfl⟩
  have hA : hp.Blk W w.heap.size 29 [.pointer p] := by rw [← hW]; exact ((hp.Blk.new w [.pointer p] _).alloc _).alloc _
  have hX : hp.Blk W (w.heap.size + 1) 32 [.int .i64 x.1, .int .i64 x.2] := by rw [← hW]; exact (hp.Blk.newAt (by simp)).alloc _
  have hR : hp.Blk W (w.heap.size + 1 + 1) 29 [.pointer none] := by rw [← hW]; exact hp.Blk.newAt (by simp)
  have hb : Below w.heap.size w W := by rw [← hW]; ((repeat' (first | with_reducible exact Below.refl _ _ | with_reducible apply Below.setCell | with_reducible apply below_drewN | with_reducible apply Below.drew | with_reducible apply Below.alloc | with_reducible refine Below.trans ?_ (Below.mono (by assumption) ?_))) <;> (first | (simp; done) | (simp; omega) | omega))
  have a0 := hA.cell 0
  have hlt := hA.lt
  obtain ⟨x0, x1⟩ := hX.cellsM
  have hlx := hX.lt
  simp only [List.getElem?_cons_zero] at a0
  have H := mPushRight_any x L (h.on hb) hx hL hbd
  clear h hL hbd hx hA hX
  go_enter Try.func8, Try.ntmps8
  go_wp2_with (go_at_call 17; (with_reducible refine H.mono ?_); clear H; rintro e w9 ⟨⟨u, rfl, hu⟩, K9⟩; (obtain ⟨pu, rfl⟩ := hu.val); have hR9 := hR.on K9; have d0 := hR9.cell 0; have df := hR9.free; have f0 := (hR9.set 0 (.pointer pu)).cell 0; simp only [List.getElem?_cons_zero, List.set_cons_zero] at d0 f0)
  exact bodyPost_ret (v := .agg #[.pointer pu]) (by simp [results, Try.results8, go_sem, f0]) rfl ⟨⟨_, rfl, hu.keep (keep_queue hR9 _ _)⟩, (hb.trans (K9.mono hb.size)).setCell (p := ⟨w.heap.size + 1 + 1, 0, none⟩) (by simp; omega) _⟩

set_option maxRecDepth 100000 in
theorem join_any' {u v : Value} {l r : List (Int × Int)} {w : World} (L : List (Int × Int)) (h : IsT w u l) (h' : IsT w v r) (hL : l ++ r = L) (hbd : L.length ≤ 4611686018427387904) :
    Calls Try.prog 16 #[u, v] w fun e w' => (∃ u, e = .returned u ∧ IsT w' u L) ∧ Below w.heap.size w w' := by
  obtain ⟨p, rfl, h⟩ := h
  obtain ⟨q, rfl, h'⟩ := h'
  obtain ⟨W, hW⟩ : ∃ W, ((w.alloc (.cells #[.pointer p] 29)).alloc (.cells #[.pointer q] 29)).alloc (.cells #[.pointer none] 29) = W := ⟨_, rfl⟩
  have hA : hp.Blk W w.heap.size 29 [.pointer p] := by rw [← hW]; exact ((hp.Blk.new w [.pointer p] _).alloc _).alloc _
  have hB : hp.Blk W (w.heap.size + 1) 29 [.pointer q] := by rw [← hW]; exact (hp.Blk.newAt (by simp)).alloc _
  have hR : hp.Blk W (w.heap.size + 1 + 1) 29 [.pointer none] := by rw [← hW]; exact hp.Blk.newAt (by simp)
  have hb : Below w.heap.size w W := by rw [← hW]; ((repeat' (first | with_reducible exact Below.refl _ _ | with_reducible apply Below.setCell | with_reducible apply below_drewN | with_reducible apply Below.drew | with_reducible apply Below.alloc | with_reducible refine Below.trans ?_ (Below.mono (by assumption) ?_))) <;> (first | (simp; done) | (simp; omega) | omega))
  have a0 := hA.cell 0
  have l0 := hA.lt
  have b0 := hB.cell 0
  have l1 := hB.lt
  simp only [List.getElem?_cons_zero] at a0 b0
  have J := mJoin_any L (h.on hb) (h'.on hb) hL hbd
  clear h h' hL hbd hA hB
  go_enter Try.func16, Try.ntmps16
  go_wp2_with (go_at_call 20; (with_reducible refine J.mono ?_); clear J; rintro e w9 ⟨⟨u, rfl, hu⟩, K9⟩; (obtain ⟨pu, rfl⟩ := hu.val); have hR9 := hR.on K9; have d0 := hR9.cell 0; have df := hR9.free; have f0 := (hR9.set 0 (.pointer pu)).cell 0; simp only [List.getElem?_cons_zero, List.set_cons_zero] at d0 f0)
  exact bodyPost_ret (v := .agg #[.pointer pu]) (by simp [results, Try.results16, go_sem, f0]) rfl ⟨⟨_, rfl, hu.keep (keep_queue hR9 _ _)⟩, (hb.trans (K9.mono hb.size)).setCell (p := ⟨w.heap.size + 1 + 1, 0, none⟩) (by simp; omega) _⟩

set_option maxRecDepth 100000 in
theorem len_any {u : Value} {l : List (Int × Int)} {w : World} (h : IsT w u l) : Calls Try.prog 15 #[u] w fun e w' => e = .returned (.int .i64 (l.length : Nat)) ∧ Below w.heap.size w w' := by
  obtain ⟨p, rfl, h⟩ := h
  have hb : Below w.heap.size w (w.alloc (.cells #[.pointer p] 29)) := by ((repeat' (first | with_reducible exact Below.refl _ _ | with_reducible apply Below.setCell | with_reducible apply below_drewN | with_reducible apply Below.drew | with_reducible apply Below.alloc | with_reducible refine Below.trans ?_ (Below.mono (by assumption) ?_))) <;> (first | (simp; done) | (simp; omega) | omega))
  have H := mMeasure_any (h.on hb)
  have hf := field_n (l.length : Nat) (topOf l)
  clear h
  go_enter Try.func15, Try.ntmps15
  go_wp2_with (go_at_call 22; (with_reducible refine H.mono ?_); rintro e w1 ⟨rfl, hb1⟩)
  go_ret
  exact ⟨rfl, hb.trans (hb1.mono hb.size)⟩

/-! ### the greatest rank -/
/-- the question -/
def isTop (m : Int) (l : List (Int × Int)) : Bool := topOf l == m
set_option maxRecDepth 100000 in
theorem ask_any (m : Int) (bq N : Nat) (w : World) (hb : bq < w.heap.size) (hc : w.cell? ⟨bq, 0, none⟩ = some (.int .i64 m)) : Asks w bq N (isTop m) := by
  intro W l K _
  have kc := (K.cell (p := ⟨bq, 0, none⟩) hb).trans hc
  have lb : bq < W.heap.size := by have := K.size; omega
  clear K hc hb
  unfold isTop
  go_enter Try.func26, Try.ntmps26
  go_wp2_with fail
  go_ret
  exact ⟨rfl, by ((repeat' (first | with_reducible exact Below.refl _ _ | with_reducible apply Below.setCell | with_reducible apply below_drewN | with_reducible apply Below.drew | with_reducible apply Below.alloc | with_reducible refine Below.trans ?_ (Below.mono (by assumption) ?_))) <;> (first | (simp; done) | (simp; omega) | omega))⟩

set_option maxRecDepth 100000 in
theorem before_any (u : Value) (L : List (Int × Int)) (w : World) (h : IsT w u L) (hbd : L.length ≤ 4611686018427387904) :
    Calls Try.prog 18 #[u] w fun e w' => MCut w' e (isTop (topOf L)) L ∧ Below w.heap.size w w' := by
  obtain ⟨p, rfl, h⟩ := h
  obtain ⟨W, hW⟩ : ∃ W, ((w.alloc (.cells #[.pointer p] 29)).alloc (.cells #[.pointer none] 27)).alloc (.cells #[.pointer none] 27) = W := ⟨_, rfl⟩
  have hA : hp.Blk W w.heap.size 29 [.pointer p] := by rw [← hW]; exact ((hp.Blk.new w [.pointer p] _).alloc _).alloc _
  have hR1 : hp.Blk W (w.heap.size + 1) 27 [.pointer none] := by rw [← hW]; exact (hp.Blk.newAt (by simp)).alloc _
  have hR2 : hp.Blk W (w.heap.size + 1 + 1) 27 [.pointer none] := by rw [← hW]; exact hp.Blk.newAt (by simp)
  have hb : Below w.heap.size w W := by rw [← hW]; ((repeat' (first | with_reducible exact Below.refl _ _ | with_reducible apply Below.setCell | with_reducible apply below_drewN | with_reducible apply Below.drew | with_reducible apply Below.alloc | with_reducible refine Below.trans ?_ (Below.mono (by assumption) ?_))) <;> (first | (simp; done) | (simp; omega) | omega))
  have a0 := hA.cell 0
  have hlt := hA.lt
  simp only [List.getElem?_cons_zero] at a0
  have H := mMeasure_any (h.on hb)
  have hf := field_r (L.length : Nat) (topOf L)
  have SP : ∀ V bq, Below w.heap.size w V → bq < V.heap.size → V.cell? ⟨bq, 0, none⟩ = some (.int .i64 (topOf L)) →
      Calls Try.prog 25 #[.agg #[.pointer p], qv bq] V fun e w' => MCut w' e (isTop (topOf L)) L ∧ Below V.heap.size V w' :=
    fun V bq K hq hc => mSplit_any bq L.length (isTop (topOf L)) p L V (h.on K) (Nat.le_refl _) hbd (ask_any _ bq _ V hq hc)
  clear h hbd
  go_enter Try.func18, Try.ntmps18
  go_wp2_with (first
    | (go_at_call 22; (with_reducible refine H.mono ?_); clear H; rintro e w1 ⟨rfl, hb1⟩; have hbV := (hb.trans (hb1.mono hb.size)).alloc (Nat.le_trans hb.size hb1.size) (.cells #[.int .i64 (topOf L)] 3); have hB := hp.Blk.new w1 [.int .i64 (topOf L)] 3; have hA1 := (hA.on hb1).alloc (.cells #[.int .i64 (topOf L)] 3); have hr1 := (hR1.on hb1).alloc (.cells #[.int .i64 (topOf L)] 3); have hr2 := (hR2.on hb1).alloc (.cells #[.int .i64 (topOf L)] 3); have a1 := hA1.cell 0; have l1 := hA1.lt; have b1 := hB.cell 0; have lB := hB.lt; simp only [List.getElem?_cons_zero] at a1 b1)
    | (go_at_call 25; (with_reducible refine (SP _ _ hbV lB b1).mono ?_); clear SP; rintro e w5 ⟨⟨a, b, X, Y, rfl, ha, hb', hc⟩, hb5⟩; have hr15 := hr1.on hb5; have hr25 := hr2.on hb5; have c1 := hr15.cell 0; have c2 := hr25.cell 0; have f1 := hr15.free; have f2 := hr25.free; simp only [List.getElem?_cons_zero] at c1 c2))
  have y1 := ((hr15.set 0 (.pointer a)).other (a := ⟨w.heap.size + 1 + 1, 0, none⟩) (by simp) (.pointer b)).cell 0
  have y2 := ((hr25.other (a := ⟨w.heap.size + 1, 0, none⟩) (by simp) (.pointer a)).set 0 (.pointer b)).cell 0
  simp only [List.getElem?_cons_zero, List.set_cons_zero] at y1 y2
  have hbZ := hbV.trans (hb5.mono hbV.size)
  exact bodyPost_ret (v := .tuple #[.agg #[.pointer a], .agg #[.pointer b]]) (by simp [results, Try.results18, go_sem, y1, y2]) rfl ⟨⟨a, b, X, Y, rfl, (ha.keep (keep_mtree hr15 _ _)).keep (keep_mtree (hr25.other (by simp) _) _ _), (hb'.keep (keep_mtree hr15 _ _)).keep (keep_mtree (hr25.other (by simp) _) _ _), hc⟩, (hbZ.setCell (p := ⟨w.heap.size + 1, 0, none⟩) (by simp) _).setCell (p := ⟨w.heap.size + 1 + 1, 0, none⟩) (by simp; omega) _⟩
end Go.Proofs.Ytfbeiimmcemniaa.pri
