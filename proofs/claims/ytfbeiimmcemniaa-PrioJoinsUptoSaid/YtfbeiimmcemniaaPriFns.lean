/- Package measured: leaf, none, total, isSingle, single, sum, over. -/
import Derived.Test.YtfbeiimmcemniaaPriHead
namespace Go.Proofs.Ytfbeiimmcemniaa.pri
open Go Go.RowKit

theorem total_nil (w : World) : Calls Try.prog 31 #[.pointer none] w fun e w' => e = .returned (mvOf 0 []) ∧ Below w.heap.size w w' := by
  have H := mn_any
  (have hR := hp.Blk.new w [.int .i64 0, .int .i64 0] 50)
  go_enter Try.func31, Try.ntmps31
  go_wp2_with (go_at_call 35; (with_reducible refine (H _).mono ?_); rintro e w1 ⟨rfl, hb⟩; (have hR1 := hR.on hb; (obtain ⟨d0, d1⟩ := hR1.cellsM); have df := hR1.free; (obtain ⟨f0, f1⟩ := (hR1.setM (.int .i64 (0)) (.int .i64 (pri.topOf ([])))).cellsM)))
  refine bodyPost_ret (v := pri.mvOf 0 ([])) (by simp [results, Try.results31, go_sem, f0, f1]) rfl ⟨rfl, ?_⟩
  ((repeat' (first | with_reducible exact Below.refl _ _ | with_reducible apply Below.setCell | with_reducible apply below_drewN | with_reducible apply Below.drew | with_reducible apply Below.alloc | with_reducible refine Below.trans ?_ (Below.mono (by assumption) ?_))) <;> (first | (simp; done) | (simp; omega) | omega))
theorem Lev.first {Q : Nat → Prop} {w : World} : ∀ {t : Lv} {p : Option Addr}, Lev Q w t p → t ≠ .nil → ∃ g u v q, p = some ⟨g, 0, none⟩ ∧ g < w.heap.size ∧ hp.Blk w g 74 (lcs t.nums u v q)
  | .nil, _, _, h => (h rfl).elim
  | .one _, _, ⟨g, v, e, _, hk, _⟩, _ => ⟨g, v, _, _, e, hk.lt, hk⟩
  | .deep _ _ _, _, ⟨g, u, v, q, e, _, hk, _⟩, _ => ⟨g, u, v, q, e, hk.lt, hk⟩
theorem total_any {Q : Nat → Prop} (t : Lv) (p : Option Addr) (w : World) (h : Lev Q w t p) (L : List (Int × Int)) (hL : t.nums = L) : Calls Try.prog 31 #[.pointer p] w fun e w' => e = .returned (mvOf L.length L) ∧ Below w.heap.size w w' := by
  by_cases ht : t = .nil
  · subst ht
    obtain rfl : p = none := h
    obtain rfl : [] = L := hL
    exact total_nil w
  · obtain ⟨g, u, v, q, rfl, hg, hk⟩ := h.first ht
    rw [hL] at hk
    have hR0 := hp.Blk.new w [.int .i64 0, .int .i64 0] 50
    obtain ⟨c0, c1⟩ := (hk.alloc (.cells #[.int .i64 0, .int .i64 0] 50)).first
    obtain ⟨f0, f1⟩ := (hR0.setM (.int .i64 (L.length : Nat)) (.int .i64 (topOf L))).cellsM
    obtain ⟨d0, d1⟩ := hR0.cellsM
    have df := hR0.free
    clear hL h ht hk
    go_enter Try.func31, Try.ntmps31
    go_wp2_with fail
    refine bodyPost_ret (v := pri.mvOf L.length L) (by simp [results, Try.results31, go_sem, f0, f1]) rfl ⟨rfl, ?_⟩
    ((repeat' (first | with_reducible exact Below.refl _ _ | with_reducible apply Below.setCell | with_reducible apply below_drewN | with_reducible apply Below.drew | with_reducible apply Below.alloc | with_reducible refine Below.trans ?_ (Below.mono (by assumption) ?_))) <;> (first | (simp; done) | (simp; omega) | omega))

theorem isSingle_one {Q : Nat → Prop} {w : World} {x : Nd} {p : Option Addr} (h : Lev Q w (.one x) p) : Calls Try.prog 41 #[.pointer p] w fun e w' => e = .returned (.bool true) ∧ w = w' := by
  obtain ⟨g, v, rfl, -, hk, -⟩ := h
  have c := hk.cell 3
  have hg := hk.lt
  simp only [List.getElem?_cons_zero, List.getElem?_cons_succ] at c
  clear hk
  go_enter Try.func41, Try.ntmps41
  go_wp2_with fail
  go_ret
  exact ⟨rfl, rfl⟩
theorem isSingle_deep {Q : Nat → Prop} {w : World} {l r : List Nd} {i : Lv} {p : Option Addr} (h : Lev Q w (.deep l i r) p) (hr : 1 ≤ r.length) : Calls Try.prog 41 #[.pointer p] w fun e w' => e = .returned (.bool false) ∧ w = w' := by
  obtain ⟨g, u, v, q, rfl, -, hk, -, hv, -⟩ := h
  obtain ⟨a, cap, rfl, -⟩ := hv.cells
  have c := hk.cell 3
  have hg := hk.lt
  simp only [List.getElem?_cons_zero, List.getElem?_cons_succ] at c
  obtain ⟨n, hn⟩ : ∃ n : Int, n = r.length := ⟨_, rfl⟩
  have hne : (n == 0) = false := beq_false_of_ne (by omega)
  clear hk
  go_enter Try.func41, Try.ntmps41
  go_wp2_with fail
  rw [← hn]
  simp only [hne]
  go_ret
  exact ⟨rfl, rfl⟩

set_option maxRecDepth 100000 in
theorem single_any {Q : Nat → Prop} (n : Nd) (p : Option Addr) (w : World) (hQ : ∀ b, w.heap.size ≤ b → Q b) (h : Nod Q w n p) :
    Calls Try.prog 32 #[.pointer p] w fun e w' => (∃ q, e = .returned (.pointer q) ∧ Lev Q w' (.one n) q) ∧ Below w.heap.size w w' := by
  obtain ⟨g, x, v, e, hg, hk, -⟩ := h.blk
  obtain ⟨c0, c1⟩ := hk.first
  obtain ⟨L, hL⟩ : ∃ L, n.nums = L := ⟨_, rfl⟩
  have hdone : ∀ (W : World) (r : Nat), Below w.heap.size w W → w.heap.size ≤ r → hp.Blk W r 61 [.pointer p] → hp.Blk W (r + 1) 74 (lcs L (.slice (some ⟨r, 0, none⟩) 1 1) (.slice none 0 0) none) → Lev Q W (.one n) (some ⟨r + 1, 0, none⟩) := by
    intro W r hb hr h1 h2
    have c := h1.cell 0
    refine ⟨r + 1, _, rfl, hQ _ (by omega), hL ▸ h2, [p], ⟨_, 1, rfl, ⟨(fun h => by cases h), by simp⟩, fun _ => ⟨r, 0, rfl, ⟨hQ _ hr, _, h1⟩, h1.lt, fun k hk => ?_⟩⟩, h.on hb, trivial⟩
    obtain rfl : k = 0 := by simpa using hk
    simpa using c
  replace hdone := Lib.hid hdone
  rw [hL] at c0 c1
  subst e
  clear hk h hL
  go_enter Try.func32, Try.ntmps32
  go_wp2_with fail
  go_ret
  refine ⟨⟨_, rfl, hdone.out _ w.heap.size ?_ (Nat.le_refl _) ?_ ?_⟩, ?_⟩
  · ((repeat' (first | with_reducible exact Below.refl _ _ | with_reducible apply Below.setCell | with_reducible apply below_drewN | with_reducible apply Below.drew | with_reducible apply Below.alloc | with_reducible refine Below.trans ?_ (Below.mono (by assumption) ?_))) <;> (first | (simp; done) | (simp; omega) | omega))
  · exact (hp.Blk.new _ _ _).alloc _
  · exact hp.Blk.newAt (by simp)
  · ((repeat' (first | with_reducible exact Below.refl _ _ | with_reducible apply Below.setCell | with_reducible apply below_drewN | with_reducible apply Below.drew | with_reducible apply Below.alloc | with_reducible refine Below.trans ?_ (Below.mono (by assumption) ?_))) <;> (first | (simp; done) | (simp; omega) | omega))
end Go.Proofs.Ytfbeiimmcemniaa.pri
