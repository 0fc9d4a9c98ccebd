/- Package measured: leaf, none, total, isSingle, single, sum, over. -/
import Derived.Test.YtkenocamlaaajaaFinTr
namespace Go.Proofs.Ytkenocamlaaajaa.fin
open Go Go.RowKit Go.Proofs.Ytkenocamlaaajaa.mono

theorem methodMeasure (x : Int) (w : World) : (Go.method 259 98 (.int .i64 x) "Measure").run Try.prog w = .ok (117, .int .i64 x) w := by kernel_rfl
theorem methodJoin (a b c d e : Int) (w : World) : (Go.method 259 99 (mv a b c d e) "Join").run Try.prog w = .ok (119, mv a b c d e) w := by kernel_rfl
theorem methodNone (a b c d e : Int) (w : World) : (Go.method 259 99 (mv a b c d e) "None").run Try.prog w = .ok (120, mv a b c d e) w := by kernel_rfl

set_option maxRecDepth 100000 in
theorem ymeasure_any (x : Int) (w : World) (hx : (Lit.int .i64 x).wf = true) : Calls Try.prog 117 #[.int .i64 x] w fun e w' => e = .returned (mvOf 1 [x]) ∧ Below w.heap.size w w' := by
  have H := one_any x
  have e : mv 1 x x x ((x % 2147483647 + 1) % 2147483647) = mvOf 1 [x] := by
    simp only [Lit.wf, IntKind.min, IntKind.max, IntKind.signed, IntKind.bits, Bool.and_eq_true, decide_eq_true_eq] at hx
    simp at hx
    simp [sumOf, lstOf, mstOf, hashOf, wrap64]
    omega
  rw [e] at H
  clear e
  (have hR := hp.Blk.new w [.int .i64 0, .int .i64 0, .int .i64 0, .int .i64 0, .int .i64 0] 99)
  go_enter Try.func117, Try.ntmps117
  go_wp2_with (go_at_call 118; (with_reducible refine (H _).mono ?_); rintro e w1 ⟨rfl, hb⟩; (have hR1 := hR.on hb; (obtain ⟨d0, d1, d2, d3, d4⟩ := hR1.cells5); have df := hR1.free; (obtain ⟨f0, f1, f2, f3, f4⟩ := (hR1.set5 (.int .i64 (1)) (.int .i64 (mono.sumOf ([x]))) (.int .i64 (mono.lstOf ([x]))) (.int .i64 (mono.mstOf ([x]))) (.int .i64 (mono.hashOf ([x])))).cells5)))
  refine bodyPost_ret (v := mono.mvOf 1 ([x])) (by simp [results, Try.results117, go_sem, f0, f1, f2, f3, f4]) rfl ⟨rfl, ?_⟩
  ((repeat' (first | with_reducible exact Below.refl _ _ | with_reducible apply Below.setCell | with_reducible apply below_drewN | with_reducible apply Below.drew | with_reducible apply Below.alloc | with_reducible refine Below.trans ?_ (Below.mono (by assumption) ?_))) <;> (first | (simp; done) | (simp; omega) | omega))

theorem Blk.five {w : World} {g : Nat} {t : TypeId} {a0 a1 a2 a3 a4 : Value} {r : List Value} (h : hp.Blk w g t (a0 :: a1 :: a2 :: a3 :: a4 :: r)) :
    w.cell? ⟨g, 0, none⟩ = some a0 ∧ w.cell? ⟨g, 1, none⟩ = some a1 ∧ w.cell? ⟨g, 2, none⟩ = some a2 ∧ w.cell? ⟨g, 3, none⟩ = some a3 ∧ w.cell? ⟨g, 4, none⟩ = some a4 :=
  ⟨h.cell 0, h.cell 1, h.cell 2, h.cell 3, h.cell 4⟩
theorem _root_.Go.Proofs.Ytkenocamlaaajaa.hp.Blk.five {w : World} {g : Nat} {t : TypeId} {a0 a1 a2 a3 a4 : Value} {r : List Value} (h : hp.Blk w g t (a0 :: a1 :: a2 :: a3 :: a4 :: r)) :
    w.cell? ⟨g, 0, none⟩ = some a0 ∧ w.cell? ⟨g, 1, none⟩ = some a1 ∧ w.cell? ⟨g, 2, none⟩ = some a2 ∧ w.cell? ⟨g, 3, none⟩ = some a3 ∧ w.cell? ⟨g, 4, none⟩ = some a4 :=
  Blk.five h

set_option maxRecDepth 100000 in
theorem leaf_any {Q : Nat → Prop} (x : Int) (w : World) (hQ : ∀ b, w.heap.size ≤ b → Q b) (hx : (Lit.int .i64 x).wf = true) :
    Calls Try.prog 77 #[.int .i64 x] w fun e w' => (∃ u, e = .returned u ∧ IsN Q w' u 0 [x]) ∧ Below w.heap.size w w' := by
  have H := fun w => ymeasure_any x w hx
  have hm := methodMeasure x
  go_enter Try.func77, Try.ntmps77
  go_wp2_with (go_at_call 117; (with_reducible refine (H _).mono ?_); rintro e w1 ⟨rfl, hb⟩)
  go_ret
  exact ⟨⟨_, rfl, _, .leaf x, rfl, ⟨_, rfl, hQ _ hb.size, hp.Blk.new _ _ _⟩, hx, rfl⟩, hb.alloc hb.size _⟩

set_option maxRecDepth 100000 in
theorem mjoin_any (a b t : List Int) (w : World) (ht : a ++ b = t) (hb : a.length + b.length ≤ 9223372036854775807) :
    Calls Try.prog 119 #[mvOf a.length a, mvOf b.length b] w fun e w' => e = .returned (mvOf t.length t) ∧ Below w.heap.size w w' := by
  have H := fun w => join_to a b t w ht hb
  clear ht hb
  obtain ⟨A, hA⟩ : ∃ A : Obj, A = .cells #[.int .i64 a.length, .int .i64 (sumOf a), .int .i64 (lstOf a), .int .i64 (mstOf a), .int .i64 (hashOf a)] 99 := ⟨_, rfl⟩
  obtain ⟨B, hB⟩ : ∃ A : Obj, A = .cells #[.int .i64 b.length, .int .i64 (sumOf b), .int .i64 (lstOf b), .int .i64 (mstOf b), .int .i64 (hashOf b)] 99 := ⟨_, rfl⟩
  have hR : hp.Blk (((w.alloc A).alloc B).alloc (.cells #[.int .i64 0, .int .i64 0, .int .i64 0, .int .i64 0, .int .i64 0] 99)) (w.heap.size + 1 + 1) 99 [.int .i64 0, .int .i64 0, .int .i64 0, .int .i64 0, .int .i64 0] := hp.Blk.newAt (by simp)
  rw [hA, hB] at hR
  clear hA hB
  go_enter Try.func119, Try.ntmps119
  go_wp2_with (go_at_call 25; (with_reducible refine (H _).mono ?_); rintro e w1 ⟨rfl, hb⟩; (have hR1 := hR.on hb; (obtain ⟨d0, d1, d2, d3, d4⟩ := hR1.cells5); have df := hR1.free; (obtain ⟨f0, f1, f2, f3, f4⟩ := (hR1.set5 (.int .i64 (t.length)) (.int .i64 (mono.sumOf t)) (.int .i64 (mono.lstOf t)) (.int .i64 (mono.mstOf t)) (.int .i64 (mono.hashOf t))).cells5)))
  refine bodyPost_ret (v := mono.mvOf t.length t) (by simp [results, Try.results119, go_sem, f0, f1, f2, f3, f4]) rfl ⟨rfl, ?_⟩
  ((repeat' (first | with_reducible exact Below.refl _ _ | with_reducible apply Below.setCell | with_reducible apply below_drewN | with_reducible apply Below.drew | with_reducible apply Below.alloc | with_reducible refine Below.trans ?_ (Below.mono (by assumption) ?_))) <;> (first | (simp; done) | (simp; omega) | omega))

/-- the measure of no numbers -/
theorem mnone_any (w : World) (a b c d e : Int) : Calls Try.prog 120 #[mv a b c d e] w fun e w' => e = .returned (mvOf 0 []) ∧ Below w.heap.size w w' := by
  have H := none_any
  have hR : hp.Blk ((w.alloc (.cells #[.int .i64 a, .int .i64 b, .int .i64 c, .int .i64 d, .int .i64 e] 99)).alloc (.cells #[.int .i64 0, .int .i64 0, .int .i64 0, .int .i64 0, .int .i64 0] 99)) (w.heap.size + 1) 99 [.int .i64 0, .int .i64 0, .int .i64 0, .int .i64 0, .int .i64 0] := hp.Blk.newAt (by simp)
  have hv : mv 0 0 9223372036854775807 (-9223372036854775808) 0 = mvOf 0 [] := rfl
  rw [hv] at H
  clear hv
  go_enter Try.func120, Try.ntmps120
  go_wp2_with (go_at_call 121; (with_reducible refine (H _).mono ?_); rintro e w1 ⟨rfl, hb⟩; (have hR1 := hR.on hb; (obtain ⟨d0, d1, d2, d3, d4⟩ := hR1.cells5); have df := hR1.free; (obtain ⟨f0, f1, f2, f3, f4⟩ := (hR1.set5 (.int .i64 (0)) (.int .i64 (mono.sumOf ([]))) (.int .i64 (mono.lstOf ([]))) (.int .i64 (mono.mstOf ([]))) (.int .i64 (mono.hashOf ([])))).cells5)))
  refine bodyPost_ret (v := mono.mvOf 0 ([])) (by simp [results, Try.results120, go_sem, f0, f1, f2, f3, f4]) rfl ⟨rfl, ?_⟩
  ((repeat' (first | with_reducible exact Below.refl _ _ | with_reducible apply Below.setCell | with_reducible apply below_drewN | with_reducible apply Below.drew | with_reducible apply Below.alloc | with_reducible refine Below.trans ?_ (Below.mono (by assumption) ?_))) <;> (first | (simp; done) | (simp; omega) | omega))
set_option maxRecDepth 100000 in
theorem mn_any (w : World) : Calls Try.prog 88 #[] w fun e w' => e = .returned (mvOf 0 []) ∧ Below w.heap.size w w' := by
  have H := fun w => mnone_any w 0 0 0 0 0
  have hm := methodNone 0 0 0 0 0
  have hR : hp.Blk ((w.alloc (.cells #[.int .i64 0, .int .i64 0, .int .i64 0, .int .i64 0, .int .i64 0] 99)).alloc (.cells #[.int .i64 0, .int .i64 0, .int .i64 0, .int .i64 0, .int .i64 0] 99)) (w.heap.size) 99 [.int .i64 0, .int .i64 0, .int .i64 0, .int .i64 0, .int .i64 0] := (hp.Blk.newAt rfl).alloc _
  go_enter Try.func88, Try.ntmps88
  go_wp2_with (go_at_call 120; (with_reducible refine (H _).mono ?_); rintro e w1 ⟨rfl, hb⟩; (have hR1 := hR.on hb; (obtain ⟨d0, d1, d2, d3, d4⟩ := hR1.cells5); have df := hR1.free; (obtain ⟨f0, f1, f2, f3, f4⟩ := (hR1.set5 (.int .i64 (0)) (.int .i64 (mono.sumOf ([]))) (.int .i64 (mono.lstOf ([]))) (.int .i64 (mono.mstOf ([]))) (.int .i64 (mono.hashOf ([])))).cells5)))
  refine bodyPost_ret (v := mono.mvOf 0 ([])) (by simp [results, Try.results88, go_sem, f0, f1, f2, f3, f4]) rfl ⟨rfl, ?_⟩
  ((repeat' (first | with_reducible exact Below.refl _ _ | with_reducible apply Below.setCell | with_reducible apply below_drewN | with_reducible apply Below.drew | with_reducible apply Below.alloc | with_reducible refine Below.trans ?_ (Below.mono (by assumption) ?_))) <;> (first | (simp; done) | (simp; omega) | omega))

theorem total_nil (w : World) : Calls Try.prog 75 #[.pointer none] w fun e w' => e = .returned (mvOf 0 []) ∧ Below w.heap.size w w' := by
  have H := mn_any
  (have hR := hp.Blk.new w [.int .i64 0, .int .i64 0, .int .i64 0, .int .i64 0, .int .i64 0] 99)
  go_enter Try.func75, Try.ntmps75
  go_wp2_with (go_at_call 88; (with_reducible refine (H _).mono ?_); rintro e w1 ⟨rfl, hb⟩; (have hR1 := hR.on hb; (obtain ⟨d0, d1, d2, d3, d4⟩ := hR1.cells5); have df := hR1.free; (obtain ⟨f0, f1, f2, f3, f4⟩ := (hR1.set5 (.int .i64 (0)) (.int .i64 (mono.sumOf ([]))) (.int .i64 (mono.lstOf ([]))) (.int .i64 (mono.mstOf ([]))) (.int .i64 (mono.hashOf ([])))).cells5)))
  refine bodyPost_ret (v := mono.mvOf 0 ([])) (by simp [results, Try.results75, go_sem, f0, f1, f2, f3, f4]) rfl ⟨rfl, ?_⟩
  ((repeat' (first | with_reducible exact Below.refl _ _ | with_reducible apply Below.setCell | with_reducible apply below_drewN | with_reducible apply Below.drew | with_reducible apply Below.alloc | with_reducible refine Below.trans ?_ (Below.mono (by assumption) ?_))) <;> (first | (simp; done) | (simp; omega) | omega))
theorem Lev.five {Q : Nat → Prop} {w : World} : ∀ {t : Lv} {p : Option Addr}, Lev Q w t p → t ≠ .nil → ∃ g u v q, p = some ⟨g, 0, none⟩ ∧ g < w.heap.size ∧ hp.Blk w g 125 (lcs t.nums u v q)
  | .nil, _, _, h => (h rfl).elim
  | .one _, _, ⟨g, v, e, _, hk, _⟩, _ => ⟨g, v, _, _, e, hk.lt, hk⟩
  | .deep _ _ _, _, ⟨g, u, v, q, e, _, hk, _⟩, _ => ⟨g, u, v, q, e, hk.lt, hk⟩
theorem total_any {Q : Nat → Prop} (t : Lv) (p : Option Addr) (w : World) (h : Lev Q w t p) (L : List Int) (hL : t.nums = L) : Calls Try.prog 75 #[.pointer p] w fun e w' => e = .returned (mvOf L.length L) ∧ Below w.heap.size w w' := by
  by_cases ht : t = .nil
  · subst ht
    obtain rfl : p = none := h
    obtain rfl : [] = L := hL
    exact total_nil w
  · obtain ⟨g, u, v, q, rfl, hg, hk⟩ := h.five ht
    rw [hL] at hk
    have hR0 := hp.Blk.new w [.int .i64 0, .int .i64 0, .int .i64 0, .int .i64 0, .int .i64 0] 99
    obtain ⟨c0, c1, c2, c3, c4⟩ := (hk.alloc (.cells #[.int .i64 0, .int .i64 0, .int .i64 0, .int .i64 0, .int .i64 0] 99)).five
    obtain ⟨f0, f1, f2, f3, f4⟩ := (hR0.set5 (.int .i64 L.length) (.int .i64 (sumOf L)) (.int .i64 (lstOf L)) (.int .i64 (mstOf L)) (.int .i64 (hashOf L))).cells5
    obtain ⟨d0, d1, d2, d3, d4⟩ := hR0.cells5
    have df := hR0.free
    clear hL h ht hk
    go_enter Try.func75, Try.ntmps75
    go_wp2_with fail
    refine bodyPost_ret (v := mono.mvOf L.length L) (by simp [results, Try.results75, go_sem, f0, f1, f2, f3, f4]) rfl ⟨rfl, ?_⟩
    ((repeat' (first | with_reducible exact Below.refl _ _ | with_reducible apply Below.setCell | with_reducible apply below_drewN | with_reducible apply Below.drew | with_reducible apply Below.alloc | with_reducible refine Below.trans ?_ (Below.mono (by assumption) ?_))) <;> (first | (simp; done) | (simp; omega) | omega))

theorem isSingle_one {Q : Nat → Prop} {w : World} {x : Nd} {p : Option Addr} (h : Lev Q w (.one x) p) : Calls Try.prog 81 #[.pointer p] w fun e w' => e = .returned (.bool true) ∧ w = w' := by
  obtain ⟨g, v, rfl, -, hk, -⟩ := h
  have c := hk.cell 6
  have hg := hk.lt
  simp only [List.getElem?_cons_zero, List.getElem?_cons_succ] at c
  clear hk
  go_enter Try.func81, Try.ntmps81
  go_wp2_with fail
  go_ret
  exact ⟨rfl, rfl⟩
theorem isSingle_deep {Q : Nat → Prop} {w : World} {l r : List Nd} {i : Lv} {p : Option Addr} (h : Lev Q w (.deep l i r) p) (hr : 1 ≤ r.length) : Calls Try.prog 81 #[.pointer p] w fun e w' => e = .returned (.bool false) ∧ w = w' := by
  obtain ⟨g, u, v, q, rfl, -, hk, -, hv, -⟩ := h
  obtain ⟨a, cap, rfl, -⟩ := hv.cells
  have c := hk.cell 6
  have hg := hk.lt
  simp only [List.getElem?_cons_zero, List.getElem?_cons_succ] at c
  obtain ⟨n, hn⟩ : ∃ n : Int, n = r.length := ⟨_, rfl⟩
  have hne : (n == 0) = false := beq_false_of_ne (by omega)
  clear hk
  go_enter Try.func81, Try.ntmps81
  go_wp2_with fail
  rw [← hn]
  simp only [hne]
  go_ret
  exact ⟨rfl, rfl⟩

set_option maxRecDepth 100000 in
theorem single_any {Q : Nat → Prop} (n : Nd) (p : Option Addr) (w : World) (hQ : ∀ b, w.heap.size ≤ b → Q b) (h : Nod Q w n p) :
    Calls Try.prog 90 #[.pointer p] w fun e w' => (∃ q, e = .returned (.pointer q) ∧ Lev Q w' (.one n) q) ∧ Below w.heap.size w w' := by
  obtain ⟨g, x, v, e, hg, hk, -⟩ := h.blk
  obtain ⟨c0, c1, c2, c3, c4⟩ := hk.five
  obtain ⟨L, hL⟩ : ∃ L, n.nums = L := ⟨_, rfl⟩
  have hdone : ∀ (W : World) (r : Nat), Below w.heap.size w W → w.heap.size ≤ r → hp.Blk W r 116 [.pointer p] → hp.Blk W (r + 1) 125 (lcs L (.slice (some ⟨r, 0, none⟩) 1 1) (.slice none 0 0) none) → Lev Q W (.one n) (some ⟨r + 1, 0, none⟩) := by
    intro W r hb hr h1 h2
    have c := h1.cell 0
    refine ⟨r + 1, _, rfl, hQ _ (by omega), hL ▸ h2, [p], ⟨_, 1, rfl, ⟨(fun h => by cases h), by simp⟩, fun _ => ⟨r, 0, rfl, ⟨hQ _ hr, _, h1⟩, h1.lt, fun k hk => ?_⟩⟩, h.on hb, trivial⟩
    obtain rfl : k = 0 := by simpa using hk
    simpa using c
  replace hdone := Lib.hid hdone
  rw [hL] at c0 c1 c2 c3 c4
  subst e
  clear hk h hL
  go_enter Try.func90, Try.ntmps90
  go_wp2_with fail
  go_ret
  refine ⟨⟨_, rfl, hdone.out _ w.heap.size ?_ (Nat.le_refl _) ?_ ?_⟩, ?_⟩
  · ((repeat' (first | with_reducible exact Below.refl _ _ | with_reducible apply Below.setCell | with_reducible apply below_drewN | with_reducible apply Below.drew | with_reducible apply Below.alloc | with_reducible refine Below.trans ?_ (Below.mono (by assumption) ?_))) <;> (first | (simp; done) | (simp; omega) | omega))
  · exact (hp.Blk.new _ _ _).alloc _
  · exact hp.Blk.newAt (by simp)
  · ((repeat' (first | with_reducible exact Below.refl _ _ | with_reducible apply Below.setCell | with_reducible apply below_drewN | with_reducible apply Below.drew | with_reducible apply Below.alloc | with_reducible refine Below.trans ?_ (Below.mono (by assumption) ?_))) <;> (first | (simp; done) | (simp; omega) | omega))
end Go.Proofs.Ytkenocamlaaajaa.fin
