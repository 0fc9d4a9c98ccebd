/- Package measured: Split of a tree; package finger: Split. -/
import Derived.Test.YtfbeiimmcemniaaPriTree
import Derived.Test.YtfbeiimmcemniaaPriSplit2
namespace Go.Proofs.Ytfbeiimmcemniaa.pri
open Go Go.RowKit

theorem ask0 {bq N : Nat} {f : List (Int × Int) → Bool} {w : World} {b : Bool} (hf : Asks w bq N f) {V : World} (K : Below w.heap.size w V) (hf0 : f [] = b) :
    Calls Try.prog 26 #[.agg #[.int .i64 0, .int .i64 (topOf [])], .pointer (some ⟨bq, 0, none⟩)] V fun e W' => e = .returned (.bool b) ∧ Below V.heap.size V W' :=
  Asks.to hf (W := V) K (l := []) (by simp) hf0

set_option maxRecDepth 100000 in
set_option maxHeartbeats 8000000 in
theorem mSplit_yes (bq : Nat) (N : Nat) (f : List (Int × Int) → Bool) (p : Option Addr) (w : World) (hf : Asks w bq N f) (hpn : p = none ∨ (∃ g, p = some ⟨g, 0, none⟩) ∧ f [] = true) :
    Calls Try.prog 25 #[.agg #[.pointer p], qv bq] w fun e w' => e = .returned (.tuple #[.agg #[.pointer none], .agg #[.pointer p]]) ∧ Below w.heap.size w w' := by
  rcases hpn with rfl | ⟨⟨g, rfl⟩, hf0⟩
  · obtain ⟨W, hW⟩ : ∃ W, ((w.alloc (.cells #[.pointer (none)] 27)).alloc (.cells #[.pointer none] 27)).alloc (.cells #[.pointer none] 27) = W := ⟨_, rfl⟩
    have hA : hp.Blk W w.heap.size 27 [.pointer (none)] := by rw [← hW]; exact ((hp.Blk.new w [.pointer (none)] _).alloc _).alloc _
    have hR1 : hp.Blk W (w.heap.size + 1) 27 [.pointer none] := by rw [← hW]; exact (hp.Blk.newAt (by simp)).alloc _
    have hR2 : hp.Blk W (w.heap.size + 1 + 1) 27 [.pointer none] := by rw [← hW]; exact hp.Blk.newAt (by simp)
    have hb : Below w.heap.size w W := by rw [← hW]; ((repeat' (first | with_reducible exact Below.refl _ _ | with_reducible apply Below.setCell | with_reducible apply below_drewN | with_reducible apply Below.drew | with_reducible apply Below.alloc | with_reducible refine Below.trans ?_ (Below.mono (by assumption) ?_))) <;> (first | (simp; done) | (simp; omega) | omega))
    have H0 := mn_any W
    go_enter Try.func25, Try.ntmps25
    go_wp2_with (go_at_call 35; (with_reducible refine H0.mono ?_); clear H0; rintro e w1 ⟨rfl, hb1⟩; have hA1 := (hA.on hb1).alloc (.cells #[.int .i64 0, .int .i64 (topOf [])] 50); have hr1 := (hR1.on hb1).alloc (.cells #[.int .i64 0, .int .i64 (topOf [])] 50); have hr2 := (hR2.on hb1).alloc (.cells #[.int .i64 0, .int .i64 (topOf [])] 50); have hB1 := hp.Blk.new w1 [.int .i64 0, .int .i64 (topOf [])] 50; have hbV := (hb.trans (hb1.mono hb.size)).alloc (hb.trans (hb1.mono hb.size)).size (.cells #[.int .i64 0, .int .i64 (topOf [])] 50); have a0 := hA1.cell 0; have lA := hA1.lt; have c1 := hr1.cell 0; have c2 := hr2.cell 0; have f1 := hr1.free; have f2 := hr2.free; (obtain ⟨e0, e1⟩ := hB1.cellsM); simp only [List.getElem?_cons_zero] at a0 c1 c2; clear hA hR1 hR2 hb1)
    go_big_region
    go_wp2_with fail
    have y1 := ((hr1.set 0 (.pointer (none))).other (a := ⟨w.heap.size + 1 + 1, 0, none⟩) (by simp) (.pointer (none))).cell 0
    have y2 := ((hr2.other (a := ⟨w.heap.size + 1, 0, none⟩) (by simp) (.pointer (none))).set 0 (.pointer (none))).cell 0
    simp only [List.getElem?_cons_zero, List.set_cons_zero] at y1 y2
    exact bodyPost_ret (v := .tuple #[.agg #[.pointer none], .agg #[.pointer none]]) (by simp [results, Try.results25, go_sem, y1, y2]) rfl ⟨rfl, by exact ((hbV.setCell (p := ⟨w.heap.size + 1, 0, none⟩) (by simp) _).setCell (p := ⟨w.heap.size + 1 + 1, 0, none⟩) (by simp; omega) _).drew⟩
  · obtain ⟨W, hW⟩ : ∃ W, ((w.alloc (.cells #[.pointer (some ⟨g, 0, none⟩)] 27)).alloc (.cells #[.pointer none] 27)).alloc (.cells #[.pointer none] 27) = W := ⟨_, rfl⟩
    have hA : hp.Blk W w.heap.size 27 [.pointer (some ⟨g, 0, none⟩)] := by rw [← hW]; exact ((hp.Blk.new w [.pointer (some ⟨g, 0, none⟩)] _).alloc _).alloc _
    have hR1 : hp.Blk W (w.heap.size + 1) 27 [.pointer none] := by rw [← hW]; exact (hp.Blk.newAt (by simp)).alloc _
    have hR2 : hp.Blk W (w.heap.size + 1 + 1) 27 [.pointer none] := by rw [← hW]; exact hp.Blk.newAt (by simp)
    have hb : Below w.heap.size w W := by rw [← hW]; ((repeat' (first | with_reducible exact Below.refl _ _ | with_reducible apply Below.setCell | with_reducible apply below_drewN | with_reducible apply Below.drew | with_reducible apply Below.alloc | with_reducible refine Below.trans ?_ (Below.mono (by assumption) ?_))) <;> (first | (simp; done) | (simp; omega) | omega))
    have H0 := mn_any W
    have Q := fun V (K : Below w.heap.size w V) => ask0 hf K hf0
    clear hf hf0
    go_enter Try.func25, Try.ntmps25
    go_wp2_with (first | (go_at_call 35; (with_reducible refine H0.mono ?_); clear H0; rintro e w1 ⟨rfl, hb1⟩; have hA1 := (hA.on hb1).alloc (.cells #[.int .i64 0, .int .i64 (topOf [])] 50); have hr1 := (hR1.on hb1).alloc (.cells #[.int .i64 0, .int .i64 (topOf [])] 50); have hr2 := (hR2.on hb1).alloc (.cells #[.int .i64 0, .int .i64 (topOf [])] 50); have hB1 := hp.Blk.new w1 [.int .i64 0, .int .i64 (topOf [])] 50; have hbV := (hb.trans (hb1.mono hb.size)).alloc (hb.trans (hb1.mono hb.size)).size (.cells #[.int .i64 0, .int .i64 (topOf [])] 50); have a0 := hA1.cell 0; have lA := hA1.lt; have c1 := hr1.cell 0; have c2 := hr2.cell 0; have f1 := hr1.free; have f2 := hr2.free; (obtain ⟨e0, e1⟩ := hB1.cellsM); simp only [List.getElem?_cons_zero] at a0 c1 c2; clear hA hR1 hR2 hb1) | (go_at_call 26; (with_reducible refine (Q _ hbV).mono ?_); rintro e w3 ⟨rfl, hb3⟩; (have hA3 := hA1.on hb3; have hr13 := hr1.on hb3; have hr23 := hr2.on hb3; have a3 := hA3.cell 0; have lA3 := hA3.lt; have c13 := hr13.cell 0; have c23 := hr23.cell 0; have f13 := hr13.free; have f23 := hr23.free; simp only [List.getElem?_cons_zero] at a3 c13 c23; have hbZ := hbV.trans (hb3.mono hbV.size); clear hb3 hA1 e0 e1 hB1)))
    go_big_region
    go_wp2_with fail
    have y1 := ((hr13.set 0 (.pointer (none))).other (a := ⟨w.heap.size + 1 + 1, 0, none⟩) (by simp) (.pointer (some ⟨g, 0, none⟩))).cell 0
    have y2 := ((hr23.other (a := ⟨w.heap.size + 1, 0, none⟩) (by simp) (.pointer (none))).set 0 (.pointer (some ⟨g, 0, none⟩))).cell 0
    simp only [List.getElem?_cons_zero, List.set_cons_zero] at y1 y2
    exact bodyPost_ret (v := .tuple #[.agg #[.pointer none], .agg #[.pointer (some ⟨g, 0, none⟩)]]) (by simp [results, Try.results25, go_sem, y1, y2]) rfl ⟨rfl, by exact ((hbZ.setCell (p := ⟨w.heap.size + 1, 0, none⟩) (by simp) _).setCell (p := ⟨w.heap.size + 1 + 1, 0, none⟩) (by simp; omega) _).drew⟩
set_option maxRecDepth 100000 in
set_option maxHeartbeats 8000000 in
theorem mSplit_no (bq : Nat) (N : Nat) (f : List (Int × Int) → Bool) (p : Option Addr) (L : List (Int × Int)) (w : World) (h : IsL Any w (.pointer p) 0 L) (hL : L ≠ []) (hN : L.length ≤ N) (hf : Asks w bq N f) (hf0 : f [] = false) (hf1 : f L = false) :
    Calls Try.prog 25 #[.agg #[.pointer p], qv bq] w fun e w' => e = .returned (.tuple #[.agg #[.pointer p], .agg #[.pointer none]]) ∧ Below w.heap.size w w' := by
    obtain ⟨_, t, e, h1, h2, h3⟩ := h
    cases e
    obtain ⟨g, u, v, q, rfl, hg, hk⟩ := h1.first (by rintro rfl; exact hL h3.symm)
    rw [h3] at hk
    obtain ⟨W, hW⟩ : ∃ W, ((w.alloc (.cells #[.pointer (some ⟨g, 0, none⟩)] 27)).alloc (.cells #[.pointer none] 27)).alloc (.cells #[.pointer none] 27) = W := ⟨_, rfl⟩
    have hA : hp.Blk W w.heap.size 27 [.pointer (some ⟨g, 0, none⟩)] := by rw [← hW]; exact ((hp.Blk.new w [.pointer (some ⟨g, 0, none⟩)] _).alloc _).alloc _
    have hR1 : hp.Blk W (w.heap.size + 1) 27 [.pointer none] := by rw [← hW]; exact (hp.Blk.newAt (by simp)).alloc _
    have hR2 : hp.Blk W (w.heap.size + 1 + 1) 27 [.pointer none] := by rw [← hW]; exact hp.Blk.newAt (by simp)
    have hb : Below w.heap.size w W := by rw [← hW]; ((repeat' (first | with_reducible exact Below.refl _ _ | with_reducible apply Below.setCell | with_reducible apply below_drewN | with_reducible apply Below.drew | with_reducible apply Below.alloc | with_reducible refine Below.trans ?_ (Below.mono (by assumption) ?_))) <;> (first | (simp; done) | (simp; omega) | omega))
    have H0 := mn_any W
    have Q := fun V (K : Below w.heap.size w V) => ask0 hf K hf0
    have Q1 := fun V (K : Below w.heap.size w V) => Asks.to hf (W := V) K hN hf1
    clear hf hf0 hf1 h1 h2 h3 hN hL
    go_enter Try.func25, Try.ntmps25
    go_wp2_with (first | (go_at_call 35; (with_reducible refine H0.mono ?_); clear H0; rintro e w1 ⟨rfl, hb1⟩; have hA1 := (hA.on hb1).alloc (.cells #[.int .i64 0, .int .i64 (topOf [])] 50); have hr1 := (hR1.on hb1).alloc (.cells #[.int .i64 0, .int .i64 (topOf [])] 50); have hr2 := (hR2.on hb1).alloc (.cells #[.int .i64 0, .int .i64 (topOf [])] 50); have hB1 := hp.Blk.new w1 [.int .i64 0, .int .i64 (topOf [])] 50; have hbV := (hb.trans (hb1.mono hb.size)).alloc (hb.trans (hb1.mono hb.size)).size (.cells #[.int .i64 0, .int .i64 (topOf [])] 50); have a0 := hA1.cell 0; have lA := hA1.lt; have c1 := hr1.cell 0; have c2 := hr2.cell 0; have f1 := hr1.free; have f2 := hr2.free; (obtain ⟨e0, e1⟩ := hB1.cellsM); simp only [List.getElem?_cons_zero] at a0 c1 c2; clear hA hR1 hR2 hb1) | (go_at_call 26; (with_reducible refine (Q _ hbV).mono ?_); clear Q; rintro e w3 ⟨rfl, hb3⟩; (have hA3 := hA1.on hb3; have hr13 := hr1.on hb3; have hr23 := hr2.on hb3; have a3 := hA3.cell 0; have lA3 := hA3.lt; have c13 := hr13.cell 0; have c23 := hr23.cell 0; have f13 := hr13.free; have f23 := hr23.free; simp only [List.getElem?_cons_zero] at a3 c13 c23; have hbZ := hbV.trans (hb3.mono hbV.size); clear hb3 hA1 e0 e1 hB1); (have hk3 := hk.on hbZ; have lk3 := hk3.lt; have k0 := hk3.cell 0; have k1 := hk3.cell 1; simp only [lcs, List.getElem?_cons_zero, List.getElem?_cons_succ] at k0 k1)) | (go_at_call 26; (with_reducible refine (Q1 _ hbZ).mono ?_); rintro e w5 ⟨rfl, hb5⟩; (have hA5 := hA3.on hb5; have hr15 := hr13.on hb5; have hr25 := hr23.on hb5; have a5 := hA5.cell 0; have lA5 := hA5.lt; have c15 := hr15.cell 0; have c25 := hr25.cell 0; have f15 := hr15.free; have f25 := hr25.free; simp only [List.getElem?_cons_zero] at a5 c15 c25; have hbY := hbZ.trans (hb5.mono hbZ.size); clear hb5 hA3)))
    have y1 := ((hr15.set 0 (.pointer (some ⟨g, 0, none⟩))).other (a := ⟨w.heap.size + 1 + 1, 0, none⟩) (by simp) (.pointer (none))).cell 0
    have y2 := ((hr25.other (a := ⟨w.heap.size + 1, 0, none⟩) (by simp) (.pointer (some ⟨g, 0, none⟩))).set 0 (.pointer (none))).cell 0
    simp only [List.getElem?_cons_zero, List.set_cons_zero] at y1 y2
    exact bodyPost_ret (v := .tuple #[.agg #[.pointer (some ⟨g, 0, none⟩)], .agg #[.pointer none]]) (by simp [results, Try.results25, go_sem, y1, y2]) rfl ⟨rfl, (hbY.setCell (p := ⟨w.heap.size + 1, 0, none⟩) (by simp) _).setCell (p := ⟨w.heap.size + 1 + 1, 0, none⟩) (by simp; omega) _⟩
/-- both parts: it becomes so with the number between them -/
def CutR (w' : World) (e : Ending) (f : List (Int × Int) → Bool) (L : List (Int × Int)) : Prop := ∃ (a b : Option Addr) (X : List (Int × Int)) (x : (Int × Int)) (Y : List (Int × Int)), e = .returned (.tuple #[.agg #[.pointer a], .agg #[.pointer b]]) ∧ IsL Any w' (.pointer a) 0 X ∧ IsL Any w' (.pointer b) 0 (x :: Y) ∧ X ++ x :: Y = L ∧ f X = false ∧ f (X ++ [x]) = true
set_option maxRecDepth 100000 in
set_option maxHeartbeats 8000000 in
theorem mSplit_at (bq : Nat) (N : Nat) (f : List (Int × Int) → Bool) (p : Option Addr) (L : List (Int × Int)) (w : World) (h : IsL Any w (.pointer p) 0 L) (hL : L ≠ []) (hN : L.length ≤ N) (hN2 : N ≤ 4611686018427387904) (hf : Asks w bq N f) (hf0 : f [] = false) (hf1 : f L = true) :
    Calls Try.prog 25 #[.agg #[.pointer p], qv bq] w fun e w' => CutR w' e f L ∧ Below w.heap.size w w' := by
    obtain ⟨_, t, e, h1, h2, h3⟩ := h
    cases e
    have ht : t ≠ .nil := by rintro rfl; exact hL h3.symm
    obtain ⟨g, u, v, q, rfl, hg, hk⟩ := h1.first ht
    rw [h3] at hk
    obtain ⟨X, hX⟩ : ∃ x, (sp f t []).1 = x := ⟨_, rfl⟩
    obtain ⟨n', hn'⟩ : ∃ x, (sp f t []).2.1 = x := ⟨_, rfl⟩
    obtain ⟨Y, hY⟩ : ∃ x, (sp f t []).2.2 = x := ⟨_, rfl⟩
    obtain ⟨o1, o2⟩ := sp_ok f t 0 [] ht h2
    obtain ⟨t1, t2⟩ := sp_at f t 0 [] ht h2 hf0 (by rw [List.nil_append, h3]; exact hf1)
    rw [hX, hn', hY, h3] at o1
    rw [hn'] at o2
    rw [hX, List.nil_append] at t1
    rw [hX, hn', List.nil_append] at t2
    obtain ⟨x, rfl⟩ : ∃ y, n' = .leaf y := by
      cases n' with
      | leaf y => exact ⟨y, rfl⟩
      | two a b => exact o2.elim
      | tri a b c => exact o2.elim
    rw [show (Nd.leaf x).nums = [x] from rfl] at o1 t2
    have o3 : X ++ x :: Y = L := by rw [← o1]; simp
    have hbd : (x :: Y).length ≤ 4611686018427387904 := by have := congrArg List.length o3; rw [List.length_append] at this; omega
    have SP : ∀ V, Below w.heap.size w V → Calls Try.prog 36 #[.pointer (some ⟨g, 0, none⟩), qv bq, .agg #[.int .i64 0, .int .i64 (topOf [])]] V fun e w' => (∃ u, e = .returned u ∧ IsS w' u 0 X (.leaf x) Y) ∧ Below V.heap.size V w' := by
      intro V K
      have := split_any bq N f hN2 t 0 (some ⟨g, 0, none⟩) [] V ht (h1.on K) h2 (hf.on K) (by rw [h3]; simpa using hN)
      rw [hX, hn', hY] at this
      exact this
    obtain ⟨W, hW⟩ : ∃ W, ((w.alloc (.cells #[.pointer (some ⟨g, 0, none⟩)] 27)).alloc (.cells #[.pointer none] 27)).alloc (.cells #[.pointer none] 27) = W := ⟨_, rfl⟩
    have hA : hp.Blk W w.heap.size 27 [.pointer (some ⟨g, 0, none⟩)] := by rw [← hW]; exact ((hp.Blk.new w [.pointer (some ⟨g, 0, none⟩)] _).alloc _).alloc _
    have hR1 : hp.Blk W (w.heap.size + 1) 27 [.pointer none] := by rw [← hW]; exact (hp.Blk.newAt (by simp)).alloc _
    have hR2 : hp.Blk W (w.heap.size + 1 + 1) 27 [.pointer none] := by rw [← hW]; exact hp.Blk.newAt (by simp)
    have hb : Below w.heap.size w W := by rw [← hW]; ((repeat' (first | with_reducible exact Below.refl _ _ | with_reducible apply Below.setCell | with_reducible apply below_drewN | with_reducible apply Below.drew | with_reducible apply Below.alloc | with_reducible refine Below.trans ?_ (Below.mono (by assumption) ?_))) <;> (first | (simp; done) | (simp; omega) | omega))
    have H0 := mn_any W
    have Q := fun V (K : Below w.heap.size w V) => ask0 hf K hf0
    have Q1 := fun V (K : Below w.heap.size w V) => Asks.to hf (W := V) K hN hf1
    have HH := Lib.hid (And.intro o3 <| And.intro t1 t2)
    clear hf hf0 hf1 h1 h2 h3 hN hL hX hn' hY o1 o3 t1 t2 ht
    go_enter Try.func25, Try.ntmps25
    go_wp2_with (first | (go_at_call 35; (with_reducible refine H0.mono ?_); clear H0; rintro e w1 ⟨rfl, hb1⟩; have hA1 := (hA.on hb1).alloc (.cells #[.int .i64 0, .int .i64 (topOf [])] 50); have hr1 := (hR1.on hb1).alloc (.cells #[.int .i64 0, .int .i64 (topOf [])] 50); have hr2 := (hR2.on hb1).alloc (.cells #[.int .i64 0, .int .i64 (topOf [])] 50); have hB1 := hp.Blk.new w1 [.int .i64 0, .int .i64 (topOf [])] 50; have hbV := (hb.trans (hb1.mono hb.size)).alloc (hb.trans (hb1.mono hb.size)).size (.cells #[.int .i64 0, .int .i64 (topOf [])] 50); have a0 := hA1.cell 0; have lA := hA1.lt; have c1 := hr1.cell 0; have c2 := hr2.cell 0; have f1 := hr1.free; have f2 := hr2.free; (obtain ⟨e0, e1⟩ := hB1.cellsM); simp only [List.getElem?_cons_zero] at a0 c1 c2; clear hA hR1 hR2 hb1) | (go_at_call 26; (with_reducible refine (Q _ hbV).mono ?_); clear Q; rintro e w3 ⟨rfl, hb3⟩; have hB3 := hB1.on hb3; (have hA3 := hA1.on hb3; have hr13 := hr1.on hb3; have hr23 := hr2.on hb3; have a3 := hA3.cell 0; have lA3 := hA3.lt; have c13 := hr13.cell 0; have c23 := hr23.cell 0; have f13 := hr13.free; have f23 := hr23.free; simp only [List.getElem?_cons_zero] at a3 c13 c23; have hbZ := hbV.trans (hb3.mono hbV.size); clear hb3 hA1 e0 e1 hB1); (have hk3 := hk.on hbZ; have lk3 := hk3.lt; have k0 := hk3.cell 0; have k1 := hk3.cell 1; simp only [lcs, List.getElem?_cons_zero, List.getElem?_cons_succ] at k0 k1)) | (go_at_call 26; (with_reducible refine (Q1 _ hbZ).mono ?_); clear Q1; rintro e w5 ⟨rfl, hb5⟩; (have hA5 := hA3.on hb5; have hr15 := hr13.on hb5; have hr25 := hr23.on hb5; have hB5 := hB3.on hb5; have a5 := hA5.cell 0; have lA5 := hA5.lt; have c15 := hr15.cell 0; have c25 := hr25.cell 0; have f15 := hr15.free; have f25 := hr25.free; (obtain ⟨x0, x1⟩ := hB5.cellsM); have lB5 := hB5.lt; simp only [List.getElem?_cons_zero] at a5 c15 c25; have hbY := hbZ.trans (hb5.mono hbZ.size); have SP' := SP _ hbY; clear SP hb5 hA3 hB3 k0 k1)) | (go_at_call 36; (with_reducible refine SP'.mono ?_); clear SP'; rintro e w7 ⟨⟨_, rfl, pl, pn, pr, rfl, hl7, hn7, hr7⟩, hb7⟩; (have hr17 := hr15.on hb7; have hr27 := hr25.on hb7; have hbX := hbY.trans (hb7.mono hbY.size); have P := push_l (Q := Any) (x :: Y) (any_ok _) hr7 (X := [x]) ⟨_, .leaf x, rfl, hn7, o2, rfl⟩ rfl hbd; clear hA5 hB5 hk3 a5 x0 x1 hb7)) | (go_at_call 37; (with_reducible refine P.mono ?_); clear P; rintro e w9 ⟨⟨_, rfl, pu, tu, rfl, hz9⟩, hb9⟩; have hu9 : IsL Any w9 (.pointer pu) 0 (x :: Y) := ⟨pu, tu, rfl, hz9⟩; (have hr19 := hr17.on hb9; have hr29 := hr27.on hb9; have hl9 := hl7.on hb9; have c19 := hr19.cell 0; have c29 := hr29.cell 0; have f19 := hr19.free; have f29 := hr29.free; simp only [List.getElem?_cons_zero] at c19 c29; have hbU := hbX.trans (hb9.mono hbX.size); clear hb9)))
    have y1 := ((hr19.set 0 (.pointer (pl))).other (a := ⟨w.heap.size + 1 + 1, 0, none⟩) (by simp) (.pointer (pu))).cell 0
    have y2 := ((hr29.other (a := ⟨w.heap.size + 1, 0, none⟩) (by simp) (.pointer (pl))).set 0 (.pointer (pu))).cell 0
    simp only [List.getElem?_cons_zero, List.set_cons_zero] at y1 y2
    obtain ⟨o3, t1, t2⟩ := HH.out
    exact bodyPost_ret (v := .tuple #[.agg #[.pointer pl], .agg #[.pointer pu]]) (by simp [results, Try.results25, go_sem, y1, y2]) rfl ⟨⟨pl, pu, X, x, Y, rfl, (hl9.keep (keep_mtree hr19 _ _)).keep (keep_mtree (hr29.other (by simp) _) _ _), (hu9.keep (keep_mtree hr19 _ _)).keep (keep_mtree (hr29.other (by simp) _) _ _), o3, t1, t2⟩, (hbU.setCell (p := ⟨w.heap.size + 1, 0, none⟩) (by simp) _).setCell (p := ⟨w.heap.size + 1 + 1, 0, none⟩) (by simp; omega) _⟩
end Go.Proofs.Ytfbeiimmcemniaa.pri
