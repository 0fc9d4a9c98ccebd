/- Package prio: the measure of an item, of none, of both; package measured: leaf, none. -/
import Derived.Test.YtfbeiimmcemniaaPriTr
import Derived.Lib.MinMax
namespace Go.Proofs.Ytfbeiimmcemniaa.pri
open Go Go.RowKit

theorem topOf_ge : ∀ l : List (Int × Int), -9223372036854775808 ≤ topOf l
  | [] => Int.le_refl _
  | x :: l => Int.le_trans (topOf_ge l) (Int.le_max_right _ _)
theorem topOf_app : ∀ a b : List (Int × Int), topOf (a ++ b) = max (topOf a) (topOf b)
  | [], b => by
    have := topOf_ge b
    show topOf b = max (-9223372036854775808) (topOf b)
    omega
  | x :: a, b => by
    show max x.1 (topOf (a ++ b)) = max (max x.1 (topOf a)) (topOf b)
    rw [topOf_app a b]
    omega
theorem topOf_le : ∀ l : List (Int × Int), (∀ x ∈ l, rws.WfP x) → topOf l ≤ 9223372036854775807
  | [], _ => by decide
  | x :: l, h => by
    have h1 := topOf_le l fun y hy => h y (List.mem_cons_of_mem _ hy)
    have h2 := (h x (List.mem_cons_self ..)).1
    simp only [Lit.wf, IntKind.min, IntKind.max, IntKind.signed, IntKind.bits, Bool.and_eq_true, decide_eq_true_eq] at h2
    simp at h2
    show max x.1 (topOf l) ≤ _
    omega
theorem topOf_one (x : Int × Int) (h : rws.WfP x) : topOf [x] = x.1 := by
  have h2 := h.1
  simp only [Lit.wf, IntKind.min, IntKind.max, IntKind.signed, IntKind.bits, Bool.and_eq_true, decide_eq_true_eq] at h2
  simp at h2
  show max x.1 (-9223372036854775808) = x.1
  omega

theorem _root_.Go.Proofs.Ytfbeiimmcemniaa.hp.Blk.first {w : World} {g : Nat} {t : TypeId} {a0 a1 : Value} {r : List Value} (h : hp.Blk w g t (a0 :: a1 :: r)) :
    w.cell? ⟨g, 0, none⟩ = some a0 ∧ w.cell? ⟨g, 1, none⟩ = some a1 := ⟨h.cell 0, h.cell 1⟩
theorem _root_.Go.Proofs.Ytfbeiimmcemniaa.hp.Blk.cellsM {w : World} {g : Nat} {t : TypeId} {a0 a1 : Value} {r : List Value} (h : hp.Blk w g t (a0 :: a1 :: r)) :
    w.cell? ⟨g, 0, none⟩ = some a0 ∧ w.cell? ⟨g, 1, none⟩ = some a1 := ⟨h.cell 0, h.cell 1⟩
theorem _root_.Go.Proofs.Ytfbeiimmcemniaa.hp.Blk.setM {w : World} {g : Nat} {t : TypeId} {a0 a1 : Value} (h : hp.Blk w g t [a0, a1]) (b0 b1 : Value) :
    hp.Blk ((w.setCell ⟨g, 0, none⟩ b0).setCell ⟨g, 1, none⟩ b1) g t [b0, b1] := h.set2 b0 b1

theorem methodMeasure (x : Int × Int) (w : World) : (Go.method 205 48 (.agg #[.int .i64 x.1, .int .i64 x.2]) "Measure").run Try.prog w = .ok (66, .agg #[.int .i64 x.1, .int .i64 x.2]) w := by kernel_rfl
theorem methodJoin (a b : Int) (w : World) : (Go.method 205 50 (mv a b) "Join").run Try.prog w = .ok (67, mv a b) w := by kernel_rfl
theorem methodNone (a b : Int) (w : World) : (Go.method 205 50 (mv a b) "None").run Try.prog w = .ok (68, mv a b) w := by kernel_rfl

set_option maxRecDepth 100000 in
theorem ymeasure_any (x : Int × Int) (w : World) (hx : rws.WfP x) : Calls Try.prog 66 #[.agg #[.int .i64 x.1, .int .i64 x.2]] w fun e w' => e = .returned (mvOf 1 [x]) ∧ Below w.heap.size w w' := by
  rw [show mvOf 1 [x] = mv 1 x.1 by rw [mvOf, topOf_one x hx]; rfl]
  obtain ⟨a, b⟩ := x
  have hR : hp.Blk ((w.alloc (.cells #[.int .i64 a, .int .i64 b] 48)).alloc (.cells #[.int .i64 0, .int .i64 0] 50)) (w.heap.size + 1) 50 [.int .i64 0, .int .i64 0] := hp.Blk.newAt (by simp)
  obtain ⟨d0, d1⟩ := hR.cellsM
  have df := hR.free
  obtain ⟨f0, f1⟩ := (hR.setM (.int .i64 1) (.int .i64 a)).cellsM
  go_enter Try.func66, Try.ntmps66
  go_wp2_with fail
  refine bodyPost_ret (v := mv 1 a) (by simp [results, Try.results66, go_sem, f0, f1]) rfl ⟨rfl, ?_⟩
  ((repeat' (first | with_reducible exact Below.refl _ _ | with_reducible apply Below.setCell | with_reducible apply below_drewN | with_reducible apply Below.drew | with_reducible apply Below.alloc | with_reducible refine Below.trans ?_ (Below.mono (by assumption) ?_))) <;> (first | (simp; done) | (simp; omega) | omega))

set_option maxRecDepth 100000 in
theorem leaf_any {Q : Nat → Prop} (x : Int × Int) (w : World) (hQ : ∀ b, w.heap.size ≤ b → Q b) (hx : rws.WfP x) :
    Calls Try.prog 24 #[.agg #[.int .i64 x.1, .int .i64 x.2]] w fun e w' => (∃ u, e = .returned u ∧ IsN Q w' u 0 [x]) ∧ Below w.heap.size w w' := by
  obtain ⟨a, b⟩ := x
  obtain ⟨W, hW⟩ : ∃ W, w.alloc (.cells #[.int .i64 a, .int .i64 b] 48) = W := ⟨_, rfl⟩
  have hA : hp.Blk W w.heap.size 48 [.int .i64 a, .int .i64 b] := by rw [← hW]; exact hp.Blk.new _ _ _
  have hb : Below w.heap.size w W := by rw [← hW]; ((repeat' (first | with_reducible exact Below.refl _ _ | with_reducible apply Below.setCell | with_reducible apply below_drewN | with_reducible apply Below.drew | with_reducible apply Below.alloc | with_reducible refine Below.trans ?_ (Below.mono (by assumption) ?_))) <;> (first | (simp; done) | (simp; omega) | omega))
  have H := fun V => ymeasure_any (a, b) V hx
  have hm := methodMeasure (a, b)
  go_enter Try.func24, Try.ntmps24
  go_wp2_with fail
  clear hW
  apply rel.region_tail (C := fun w' => Below W.heap.size W w') (X := fun w w' => Below w.heap.size w w') 5 (by kernel_rfl) (by kernel_rfl) (by kernel_rfl) (by kernel_rfl) ((Below.refl _ _).drew)
  ((apply rel.walk_val; (focus (intro wq hq hf; (obtain ⟨d0, d1⟩ := ((hA).below hq (hA).lt).cellsM); go_wp2; refine ⟨hq, Below.refl _ _, ?_, rfl⟩; (show rel.slot _ _ = _; simp only [rel.slot_lit, List.getD_cons_succ, List.getD_cons_zero]; (first | done | exact rfl)))); (simp only [rel.put_lit, List.set_cons_succ, List.set_cons_zero])))
  (apply rel.walk_val; (focus (intro wq hq hf; go_wp2; refine ⟨hq, Below.refl _ _, ?_, rfl⟩; (show rel.slot _ _ = _; simp only [rel.slot_lit, List.getD_cons_succ, List.getD_cons_zero]; (first | done | exact rfl)))); (simp only [rel.put_lit, List.set_cons_succ, List.set_cons_zero]))
  (apply rel.walk_val; (focus (intro wq hq hf; go_wp2_with (go_at_call 66; refine (H _).mono ?_; rintro e w'' ⟨rfl, hb⟩); refine ⟨hq.trans (hb.mono hq.size), hb, ?_, rfl⟩; (show rel.slot _ _ = _; simp only [rel.slot_lit, List.getD_cons_succ, List.getD_cons_zero]; (first | done | exact rfl)))); (simp only [rel.put_lit, List.set_cons_succ, List.set_cons_zero]))
  ((apply rel.walk_val; (focus (intro wq hq hf; (obtain ⟨d0, d1⟩ := ((hA).below hq (hA).lt).cellsM); go_wp2; refine ⟨hq, Below.refl _ _, ?_, rfl⟩; (show rel.slot _ _ = _; simp only [rel.slot_lit, List.getD_cons_succ, List.getD_cons_zero]; (first | done | exact rfl)))); (simp only [rel.put_lit, List.set_cons_succ, List.set_cons_zero])))
  (apply rel.walk_val; (focus (intro wq hq hf; go_wp2; refine ⟨hq, Below.refl _ _, ?_, rfl⟩; (show rel.slot _ _ = _; simp only [rel.slot_lit, List.getD_cons_succ, List.getD_cons_zero]; (first | done | exact rfl)))); (simp only [rel.put_lit, List.set_cons_succ, List.set_cons_zero]))
  refine rel.walk_nil ?_
  intro w9 K9 hF
  clear hF
  simp only [List.drop_succ_cons, List.drop_zero]
  go_wp2_with fail
  go_ret
  have hb9 := hb.trans (K9.mono hb.size)
  exact ⟨⟨_, rfl, _, .leaf (a, b), rfl, ⟨_, rfl, hQ _ hb9.size, hp.Blk.new _ _ _⟩, hx, rfl⟩, hb9.alloc hb9.size _⟩

set_option maxRecDepth 100000 in
theorem mjoin_any (a b t : List (Int × Int)) (w : World) (ht : a ++ b = t) (hb : a.length + b.length ≤ 9223372036854775807) :
    Calls Try.prog 67 #[mvOf a.length a, mvOf b.length b] w fun e w' => e = .returned (mvOf t.length t) ∧ Below w.heap.size w w' := by
  have e1 : ((t.length : Nat) : Int) = wrap64 (a.length + b.length) := by
    rw [← ht, List.length_append]
    generalize a.length = n at *
    generalize b.length = m at *
    simp only [wrap64]
    omega
  have e2 : topOf t = max (topOf a) (topOf b) := by rw [← ht, topOf_app]
  show Calls Try.prog 67 #[mv a.length (topOf a), mv b.length (topOf b)] w fun e w' => e = .returned (mv t.length (topOf t)) ∧ Below w.heap.size w w'
  rw [e1, e2]
  clear ht hb e1 e2
  generalize (a.length : Int) = n
  generalize (b.length : Int) = m
  generalize topOf a = x
  generalize topOf b = y
  have hR : hp.Blk (((w.alloc (.cells #[.int .i64 n, .int .i64 x] 50)).alloc (.cells #[.int .i64 m, .int .i64 y] 50)).alloc (.cells #[.int .i64 0, .int .i64 0] 50)) (w.heap.size + 1 + 1) 50 [.int .i64 0, .int .i64 0] := hp.Blk.newAt (by simp)
  obtain ⟨d0, d1⟩ := hR.cellsM
  have df := hR.free
  obtain ⟨f0, f1⟩ := (hR.setM (.int .i64 (wrap64 (n + m))) (.int .i64 (max x y))).cellsM
  go_enter Try.func67, Try.ntmps67
  go_wp2_with fail
  refine bodyPost_ret (v := mv (wrap64 (n + m)) (max x y)) (by simp [results, Try.results67, go_sem, f0, f1]) rfl ⟨rfl, ?_⟩
  ((repeat' (first | with_reducible exact Below.refl _ _ | with_reducible apply Below.setCell | with_reducible apply below_drewN | with_reducible apply Below.drew | with_reducible apply Below.alloc | with_reducible refine Below.trans ?_ (Below.mono (by assumption) ?_))) <;> (first | (simp; done) | (simp; omega) | omega))

/-- the measure of no items -/
theorem mnone_any (w : World) (a b : Int) : Calls Try.prog 68 #[mv a b] w fun e w' => e = .returned (mvOf 0 []) ∧ Below w.heap.size w w' := by
  have hR : hp.Blk ((w.alloc (.cells #[.int .i64 a, .int .i64 b] 50)).alloc (.cells #[.int .i64 0, .int .i64 0] 50)) (w.heap.size + 1) 50 [.int .i64 0, .int .i64 0] := hp.Blk.newAt (by simp)
  obtain ⟨d0, d1⟩ := hR.cellsM
  have df := hR.free
  obtain ⟨f0, f1⟩ := (hR.setM (.int .i64 0) (.int .i64 (-9223372036854775808))).cellsM
  go_enter Try.func68, Try.ntmps68
  go_wp2_with fail
  refine bodyPost_ret (v := mv 0 (-9223372036854775808)) (by simp [results, Try.results68, go_sem, f0, f1]) rfl ⟨rfl, ?_⟩
  ((repeat' (first | with_reducible exact Below.refl _ _ | with_reducible apply Below.setCell | with_reducible apply below_drewN | with_reducible apply Below.drew | with_reducible apply Below.alloc | with_reducible refine Below.trans ?_ (Below.mono (by assumption) ?_))) <;> (first | (simp; done) | (simp; omega) | omega))
set_option maxRecDepth 100000 in
theorem mn_any (w : World) : Calls Try.prog 35 #[] w fun e w' => e = .returned (mvOf 0 []) ∧ Below w.heap.size w w' := by
  have H := fun w => mnone_any w 0 0
  have hm := methodNone 0 0
  have hR : hp.Blk ((w.alloc (.cells #[.int .i64 0, .int .i64 0] 50)).alloc (.cells #[.int .i64 0, .int .i64 0] 50)) (w.heap.size) 50 [.int .i64 0, .int .i64 0] := (hp.Blk.newAt rfl).alloc _
  go_enter Try.func35, Try.ntmps35
  go_wp2_with (go_at_call 68; (with_reducible refine (H _).mono ?_); rintro e w1 ⟨rfl, hb⟩; (have hR1 := hR.on hb; (obtain ⟨d0, d1⟩ := hR1.cellsM); have df := hR1.free; (obtain ⟨f0, f1⟩ := (hR1.setM (.int .i64 (0)) (.int .i64 (pri.topOf ([])))).cellsM)))
  refine bodyPost_ret (v := pri.mvOf 0 ([])) (by simp [results, Try.results35, go_sem, f0, f1]) rfl ⟨rfl, ?_⟩
  ((repeat' (first | with_reducible exact Below.refl _ _ | with_reducible apply Below.setCell | with_reducible apply below_drewN | with_reducible apply Below.drew | with_reducible apply Below.alloc | with_reducible refine Below.trans ?_ (Below.mono (by assumption) ?_))) <;> (first | (simp; done) | (simp; omega) | omega))
end Go.Proofs.Ytfbeiimmcemniaa.pri
