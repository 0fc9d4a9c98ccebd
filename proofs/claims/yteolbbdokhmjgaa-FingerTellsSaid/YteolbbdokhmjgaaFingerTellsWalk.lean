/- The walk of FingerTells. -/
import Derived.Test.YteolbbdokhmjgaaFinWalks
import Derived.Test.YteolbbdokhmjgaaRefMeasure
namespace Go.Proofs.Yteolbbdokhmjgaa.fingerTells
open Go Go.RowKit Go.Proofs.Yteolbbdokhmjgaa.fin Go.Proofs.Yteolbbdokhmjgaa.mono
set_option linter.unusedVariables false

/-- a slice that reads as these numbers, its cells (if it has any) in a row of ints -/
def IsI (w : World) (v : Value) (l : List Int) : Prop := ∃ a n c, v = .slice a n c ∧ hp.IsInts w w.heap.size v l ∧ ∀ ad : Addr, a = some ad → ∃ cs, hp.Blk w ad.block 3 cs
section
variable {w w' : World} {v : Value} {l : List Int}
theorem IsI.on (h : IsI w v l) (hb : Below w.heap.size w w') : IsI w' v l := let ⟨a, n, c, e, h1, h2⟩ := h; ⟨a, n, c, e, h1.on hb, fun ad ea => let ⟨cs, hB⟩ := h2 ad ea; ⟨cs, hB.on hb⟩⟩
theorem IsI.nil (w : World) : IsI w (.slice none 0 0) [] := ⟨none, 0, 0, rfl, hp.IsInts.nil _ _, fun _ h => by cases h⟩
theorem IsI.keep {g o : Nat} {cs : List Value} {u : Value} (h : IsI w v l) (hg : hp.Blk w g 28 cs) : IsI (w.setCell ⟨g, o, none⟩ u) v l := by
  obtain ⟨a, n, c, rfl, ⟨a', cap, e, hn, hm, hw, hc⟩, ht⟩ := h
  cases e
  refine ⟨a, _, _, rfl, ⟨a, _, rfl, hn, hm, hw, fun hp => ?_⟩, fun ad ea => ?_⟩
  · obtain ⟨b, off, rfl, hb, hcell⟩ := hc hp
    obtain ⟨cs', hB⟩ := ht _ rfl
    have hne : b ≠ g := blk_ne hB hg (by decide)
    refine ⟨b, off, rfl, by simpa [World.setCell] using hb, fun k hk => ?_⟩
    rw [← hcell k hk]
    have := Below.heap_setCell w ⟨g, o, none⟩ u b hne
    simp only [World.cell?, this]
  · obtain ⟨cs', hB⟩ := ht ad ea
    exact ⟨cs', hB.other (blk_ne hB hg (by decide)) _⟩
theorem IsI.of_owns {base n : Nat} (h : w.ownsRow base 3 1 v n (l.map (Value.int .i64))) (hn : n = l.length) (hw : ∀ x ∈ l, (Lit.int .i64 x).wf = true) : IsI w v l := by
  have h1 := hp.IsInts.of_owns h hn hw
  rcases h.2 with ⟨rfl, h0⟩ | ⟨g, cap, cur, rfl, hb, hg, -⟩
  · exact ⟨none, 0, 0, rfl, h1, fun _ h => by cases h⟩
  · exact ⟨_, _, _, rfl, h1, fun ad e => by cases e; exact ⟨cur.toList, by simpa [hp.Blk] using hg⟩⟩
theorem IsI.sliced {a : Option Addr} {n c : Nat} (h : IsI w (.slice a n c) l) {i j : Nat} (hij : i ≤ j) (hj : j ≤ l.length) : IsI w (Go.sliced a i j c 1) ((l.take j).drop i) := by
  obtain ⟨a', n', c', e, h1, h2⟩ := h
  cases e
  refine ⟨_, _, _, rfl, h1.sliced hij hj, fun ad e => ?_⟩
  split at e
  · exact h2 ad e
  · cases a with
    | none => cases e
    | some a0 =>
      obtain rfl := Option.some.inj e
      have h3 := h2 a0 rfl
      simp only [Addr.add]
      split <;> exact h3
theorem IsI.len {a : Option Addr} {n c : Nat} (h : IsI w (.slice a n c) l) : n = l.length ∧ n ≤ c := by
  obtain ⟨a', n', c', e, ⟨a2, cap, e2, hn, _⟩, h2⟩ := h
  cases e; cases e2
  exact ⟨rfl, hn.2⟩
theorem IsI.ints (h : IsI w v l) : hp.IsInts w w.heap.size v l := let ⟨_, _, _, _, h1, _⟩ := h; h1
theorem IsI.val (h : IsI w v l) : ∃ a n c, v = .slice a n c := let ⟨a, n, c, e, _⟩ := h; ⟨a, n, c, e⟩
end
theorem own_val {w : World} {base n : Nat} {e : TypeId} {v : Value} {xs : List Value} (h : w.ownsRow base e 1 v n xs) : ∃ a c, v = .slice a n c := by
  rcases h.2 with ⟨rfl, h0⟩ | ⟨g, cap, cur, rfl, _⟩
  · exact ⟨none, 0, by rw [h0]⟩
  · exact ⟨_, _, rfl⟩
theorem ints_one {w : World} {g : Nat} {t : TypeId} {x : Int} (h : hp.Blk w g t [.int .i64 x]) (hx : (Lit.int .i64 x).wf = true) : hp.IsInts w w.heap.size (.slice (some ⟨g, 0, none⟩) 1 1) [x] := by
  refine ⟨_, 1, rfl, ⟨(fun h => by cases h), by simp⟩, by simp, by simpa using hx, fun _ => ⟨g, 0, rfl, h.lt, fun k hk => ?_⟩⟩
  obtain rfl : k = 0 := by simpa using hk
  simpa using h.cell 0
theorem own_low {w : World} {base base' n : Nat} {e : TypeId} {v : Value} {xs : List Value} (h : w.ownsRow base e 1 v n xs) (hb : base' ≤ base) : w.ownsRow base' e 1 v n xs :=
  ⟨h.1, h.2.imp id fun ⟨g, cap, cur, e1, h1, h2⟩ => ⟨g, cap, cur, e1, Nat.le_trans hb h1, h2⟩⟩

set_option maxRecDepth 100000 in
set_option maxHeartbeats 16000000 in
attribute [-go_sem] sliced in
theorem walk (v0 : Value) (l0 : List Int) (v1 : Value) (l1 : List Int) (w : World) (i0 : hp.IsInts w w.heap.size v0 l0) (i1 : hp.IsInts w w.heap.size v1 l1) (bd : l0.length ≤ 17592186043904) (bd1 : l1.length ≤ 17592186043904) :
    Calls Try.prog 3 #[v0, v1] w fun e w' => e = .returned (.bool true) ∧ Below w.heap.size w w' := by
  have wf0 := i0.wf
  have O1 := fun W (K : Below w.heap.size w W) => of_any v0 l0 W (i0.on K) (by omega)
  have S1 := fun W v (K : Below w.heap.size w W) (h : hp.IsInts W W.heap.size v l0) => same.ints_eq rfl h (i0.on K)
  obtain ⟨z0, c0, rfl, -, -, -, hc0⟩ := i0
  obtain ⟨z1, c1, rfl, -, -, -, hc1⟩ := i1
  obtain ⟨n, hn⟩ : ∃ n, l0.length = n := ⟨_, rfl⟩
  obtain ⟨m, hm⟩ : ∃ n, l1.length = n := ⟨_, rfl⟩
  have hc0' : ∀ W, Below w.heap.size w W → ∀ j, j < n → ∃ b off, z0 = some ⟨b, off, none⟩ ∧ b < W.heap.size ∧ W.cell? ⟨b, off + j, none⟩ = some (.int .i64 (l0.getD j 0)) := by
    intro W K j hj
    obtain ⟨b, off, e, hb, hcell⟩ := hc0 (by omega)
    exact ⟨b, off, e, by have := K.size; omega, (K.cell (p := ⟨b, off + j, none⟩) hb).trans (hcell j (by omega))⟩
  have hc1' : ∀ W, Below w.heap.size w W → ∀ j, j < m → ∃ b off, z1 = some ⟨b, off, none⟩ ∧ b < W.heap.size ∧ W.cell? ⟨b, off + j, none⟩ = some (.int .i64 (l1.getD j 0)) := by
    intro W K j hj
    obtain ⟨b, off, e, hb, hcell⟩ := hc1 (by omega)
    exact ⟨b, off, e, by have := K.size; omega, (K.cell (p := ⟨b, off + j, none⟩) hb).trans (hcell j (by omega))⟩
  simp only [hn] at O1 S1
  rw [hn] at bd ⊢
  rw [hm] at bd1 ⊢
  have hn' := Lib.hid hn
  have K := Below.refl w.heap.size w
  replace hc0' := Lib.hid hc0'
  replace hc1' := Lib.hid hc1'
  clear hc0 hc1 hm hn
  go_enter Try.func3, Try.ntmps3
  go_wp2_with (go_at_call 9; (with_reducible refine (fingered_any _).mono ?_); rintro e wa ⟨rfl, hb⟩; (replace K := K.trans ((hb).mono K.size); clear hb))
  obtain ⟨g, hg⟩ : ∃ g, g = wa.heap.size := ⟨_, rfl⟩
  have hgw : w.heap.size ≤ g := by rw [hg]; exact K.size
  have BT : hp.Blk (wa.alloc (.cells #[.pointer none] 28)) g 28 [.pointer none] := by rw [hg]; exact hp.Blk.new wa [.pointer none] _
  replace K := K.alloc K.size (.cells #[.pointer none] 28)
  rw [← hg]
  clear hg
  go_loopw [7, 8, 9, 10, 11, 12, 13, 14, 15, 16, 17, 18, 19] (fun v i _ _ _ _ _ _ _ _ _ _ _ W => ∃ (j : Nat) (p : Option Addr) (a : List Int), i = .int .i64 j ∧ j ≤ n ∧ a.length ≤ j ∧ Below w.heap.size w W ∧ hp.Blk W g 28 [.pointer p] ∧ IsT W (.agg #[.pointer p]) a ∧ IsI W v a) (fun _ i _ _ _ _ _ _ _ _ _ _ _ _ => n - (intOf i).toNat)
  case atStart => exact ⟨0, none, [], rfl, by omega, by simp, K, BT, IsT.nil _, IsI.nil _⟩
  case round =>
    clear BT K
    obtain ⟨j, p, a, rfl, hj, ha, K, BT, hT, hv⟩ := hrel
    by_cases hlt : j < n ∧ j < m
    · obtain ⟨hjn, hjm⟩ := hlt
      obtain ⟨x, hx⟩ : ∃ x, x = l0.getD j 0 := ⟨_, rfl⟩
      obtain ⟨y, hy⟩ : ∃ x, x = l1.getD j 0 := ⟨_, rfl⟩
      have hxw : (Lit.int .i64 x).wf = true := wf0 x (by rw [hx]; simp [show j < l0.length by have := hn'.out; omega])
      have X0 : ∀ W, Below w.heap.size w W → ∃ b off, z0 = some ⟨b, off, none⟩ ∧ b < W.heap.size ∧ W.cell? ⟨b, off + j, none⟩ = some (.int .i64 x) := fun W h => by rw [hx]; exact hc0'.out W h j hjn
      have X1 : ∀ W, Below w.heap.size w W → ∃ b off, z1 = some ⟨b, off, none⟩ ∧ b < W.heap.size ∧ W.cell? ⟨b, off + j, none⟩ = some (.int .i64 y) := fun W h => by rw [hy]; exact hc1'.out W h j hjm
      replace X0 := Lib.hid X0
      replace X1 := Lib.hid X1
      clear hx hy O1 S1
      have hne : g ≠ wr.heap.size := Nat.ne_of_lt BT.lt
      have lT0 := BT.lt
      have dT := BT.cell 0
      simp only [List.getElem?_cons_zero] at dT
      obtain ⟨W, hW⟩ : ∃ W, wr.alloc (.cells #[.pointer p] 28) = W := ⟨_, rfl⟩
      have hbW : Below wr.heap.size wr W := by rw [← hW]; exact (Below.refl _ _).alloc (Nat.le_refl _) _
      have BR : hp.Blk W wr.heap.size 28 [.pointer p] := by rw [← hW]; exact hp.Blk.new wr [.pointer p] _
      replace BT := BT.on hbW
      replace hT := hT.on hbW
      replace hv := hv.on hbW
      have hgrw : w.heap.size ≤ wr.heap.size := K.size
      replace K := K.trans (hbW.mono K.size)
      obtain ⟨b1, o1, rfl, hb1, k1⟩ := X1.out W K
      obtain ⟨b, off, rfl, hbw, kp⟩ := X0.out W K
      have eT := BT.cell 0
      have lT := BT.lt
      simp only [List.getElem?_cons_zero] at eT
      obtain ⟨av, nv, cv, rfl⟩ := hv.val
      have hvl := hv.len
      obtain ⟨rfl, hvc⟩ := hvl
      by_cases y0 : y = 0
      · have e0 : (y == 0) = true := by rw [y0]; rfl
        obtain ⟨AA, hAA⟩ : ∃ A, x :: a = A := ⟨_, rfl⟩
        have lAA : AA.length ≤ j + 1 := by rw [← hAA, List.length_cons]; omega
        have H1 := fun V (h : Below W.heap.size W V) => pushLeft x AA (hT.on h) hxw hAA (by omega)
        replace hAA := Lib.hid hAA
        clear y0
        go_wp2_with fail
        clear hW
        (apply rel.region_tail (C := fun w' => Below W.heap.size W w') (X := fun w w' => Below w.heap.size w w') 6 (by kernel_rfl) (by kernel_rfl) (by kernel_rfl) (by kernel_rfl) ((Below.refl _ _).drew); ((apply rel.walk_val; (focus (intro wq hq hf; (have d0 := (((BT).below hq (BT).lt)).cell 0; simp only [List.getElem?_cons_zero] at d0); go_wp2; refine ⟨hq, Below.refl _ _, ?_, rfl⟩; (show rel.slot _ _ = _; simp only [rel.slot_lit, List.getD_cons_succ, List.getD_cons_zero]; (first | done | exact rfl)))); (simp only [rel.put_lit, List.set_cons_succ, List.set_cons_zero]))); (apply rel.walk_val; (focus (intro wq hq hf; go_wp2; refine ⟨hq, Below.refl _ _, ?_, rfl⟩; (show rel.slot _ _ = _; simp only [rel.slot_lit, List.getD_cons_succ, List.getD_cons_zero]; (first | done | exact rfl)))); (simp only [rel.put_lit, List.set_cons_succ, List.set_cons_zero])); (apply rel.walk_val; (focus (intro wq hq hf; go_wp2; refine ⟨hq, Below.refl _ _, ?_, rfl⟩; (show rel.slot _ _ = _; simp only [rel.slot_lit, List.getD_cons_succ, List.getD_cons_zero]; (first | done | exact rfl)))); (simp only [rel.put_lit, List.set_cons_succ, List.set_cons_zero])); (apply rel.walk_val; (focus (intro wq hq hf; go_wp2; refine ⟨hq, Below.refl _ _, ?_, rfl⟩; (show rel.slot _ _ = _; simp only [rel.slot_lit, List.getD_cons_succ, List.getD_cons_zero]; (first | done | exact rfl)))); (simp only [rel.put_lit, List.set_cons_succ, List.set_cons_zero])); ((apply rel.walk_val; (focus (intro wq hq hf; (have d0 := (hq.cell (p := ⟨b, off + j, none⟩) hbw).trans kp); go_wp2; refine ⟨hq, Below.refl _ _, ?_, rfl⟩; (show rel.slot _ _ = _; simp only [rel.slot_lit, List.getD_cons_succ, List.getD_cons_zero]; (first | done | exact rfl)))); (simp only [rel.put_lit, List.set_cons_succ, List.set_cons_zero]))); (apply rel.walk_rel (fun u w' => fin.IsT w' u (AA)) ⟨_, rfl⟩ (fun u w1 w2 h1 h2 => h2.on h1); (focus (intro wq hq hf; go_wp2_with (go_at_call 10; with_reducible refine (H1 _ hq).mono ?_; rintro e w'' ⟨⟨u, rfl, hu⟩, hb⟩); refine ⟨hq.trans (hb.mono hq.size), hb, ?_, rfl⟩; (show fin.IsT _ (rel.slot _ _) _; simp only [rel.slot_lit, List.getD_cons_succ, List.getD_cons_zero]; exact hu))); (intro u wu _ hu; obtain ⟨pu, rfl⟩ := fin.IsT.val hu; (simp only [rel.put_lit, List.set_cons_succ, List.set_cons_zero]))); (refine rel.walk_nil ?_; intro w9 K9 hF; have hu9 := hF _ (List.mem_cons_self ..); clear hF); simp only [List.drop_succ_cons, List.drop_zero])
        have BR9 := BR.on K9
        have d0 := BR9.cell 0
        have df := BR9.free
        simp only [List.getElem?_cons_zero] at d0
        obtain ⟨W2, hW2⟩ : ∃ W2, w9.setCell ⟨wr.heap.size, 0, none⟩ (.pointer pu) = W2 := ⟨_, rfl⟩
        have hT2 : fin.IsT W2 (.agg #[.pointer pu]) AA := by rw [← hW2]; exact hu9.keep (keep_tree BR9 _ _)
        have hv2 : IsI W2 (.slice av a.length cv) a := by rw [← hW2]; exact (hv.on K9).keep BR9
        have BT2 : hp.Blk W2 g 28 [.pointer p] := by rw [← hW2]; exact (BT.on K9).other hne _
        have BR2 : hp.Blk W2 wr.heap.size 28 [.pointer pu] := by rw [← hW2]; exact BR9.set 0 _
        have K2 : Below w.heap.size w W2 := by rw [← hW2]; exact (K.trans (K9.mono K.size)).setCell (p := ⟨wr.heap.size, 0, none⟩) hgrw _
        obtain ⟨b', off', e', hbw2, kp2⟩ := X0.out W2 K2
        cases e'
        clear H1 hT hv BT BR BR9 K9 hu9 hbw kp K
        go_wp2_with (first
          | (at_builtin; refine hp.append_ints rfl _ _ 22 rfl W2.heap.size 3 Try.underlying22 same.infoInt _ 1 [x] rfl (hp.row_one W2 x) _ a rfl (hv2.on ((Below.refl _ _).alloc (Nat.le_refl _) _)).ints (by omega) (by simp) ?_; intro u5 w5 own5 gr5; have Kx : Below W2.heap.size W2 w5 := ((Below.refl W2.heap.size W2).alloc (Nat.le_refl _) _).grown gr5 (by simp) (fun k hk => ((hp.row_one W2 x).lt k hk).1); have BT := BT2.on Kx; have BR := BR2.on Kx; have hT := hT2.on Kx; have K := K2.trans (Kx.mono K2.size); have hv := IsI.of_owns (l := AA) (by rw [← hAA.out]; exact own5) (by rw [← hAA.out]; simp; omega) hT2.wf; (obtain ⟨a5, n5, c5, rfl⟩ := hv.val); clear gr5 own5 Kx BT2 BR2 hT2 hv2 K2 hW2 d0 df; (have rT := BT.cell 0; have rTf := BT.free; have rR := BR.cell 0; have lR := BR.lt; simp only [List.getElem?_cons_zero] at rT rR; (obtain ⟨W6, hW6⟩ : ∃ W6, (w5).setCell ⟨g, 0, none⟩ (.pointer pu) = W6 := ⟨_, rfl⟩); have BT6 : hp.Blk W6 g 28 [.pointer pu] := (by rw [← hW6]; exact BT.set 0 _); have hT6 : fin.IsT W6 (.agg #[.pointer pu]) (AA) := (by rw [← hW6]; exact hT.keep (keep_tree BT _ _)); have hv6 := (show fingerTells.IsI W6 _ (AA) by rw [← hW6]; exact hv.keep BT); have K6 : Below w.heap.size w W6 := (by rw [← hW6]; exact K.setCell (p := ⟨g, 0, none⟩) hgw _); have q0 := BT6.cell 0; have lT6 := BT6.lt; simp only [List.getElem?_cons_zero] at q0; have I1 := ints_any _ (AA) W6 hT6 ((by omega)); clear hT hv BT BR K))
          | (go_at_call 16; (with_reducible refine I1.mono ?_); clear I1; rintro e wi ⟨⟨u, rfl, hi⟩, hb⟩; have hiv := hi; (obtain ⟨_, _, rfl, -⟩ := hiv); replace BT6 := BT6.on hb; replace hT6 := hT6.on hb; replace hv6 := hv6.on hb; replace K6 := K6.trans (hb.mono K6.size); clear hb hW6) | (go_at_call 15; (with_reducible refine (same.ints_eq rfl hi hv6.ints).mono ?_); clear hi q0; rintro e ws ⟨rfl, hb⟩; replace BT6 := BT6.on hb; replace hT6 := hT6.on hb; replace hv6 := hv6.on hb; replace K6 := K6.trans (hb.mono K6.size); clear hb; have q0 := BT6.cell 0; have lq := BT6.lt; simp only [List.getElem?_cons_zero] at q0) | (go_at_call 17; (with_reducible refine (measure_any hT6).mono ?_); rintro e wm ⟨rfl, hb⟩; replace BT6 := BT6.on hb; replace hT6 := hT6.on hb; replace hv6 := hv6.on hb; replace K6 := K6.trans (hb.mono K6.size); clear hb) | (go_at_call 18; (with_reducible refine (ref.measureOf_any _ (AA) _ hv6.ints).mono ?_); rintro e wn ⟨rfl, hb⟩; replace BT6 := BT6.on hb; replace hT6 := hT6.on hb; replace hv6 := hv6.on hb; replace K6 := K6.trans (hb.mono K6.size); clear hb))
        (go_roundw; (case rel => exact ⟨j + 1, _, AA, by go_num, by omega, lAA, K6, BT6, hT6, hv6⟩); (case measure => simp [intOf]; omega))
      by_cases y1 : y = 1
      · have e0 : (y == 0) = false := beq_false_of_ne y0
        have e1 : (y == 1) = true := by rw [y1]; rfl
        obtain ⟨AA, hAA⟩ : ∃ A, a ++ [x] = A := ⟨_, rfl⟩
        have lAA : AA.length ≤ j + 1 := by rw [← hAA, List.length_append, List.length_singleton]; omega
        have H1 := fun V (h : Below W.heap.size W V) => pushRight x AA (hT.on h) hxw hAA (by omega)
        replace hAA := Lib.hid hAA
        clear y0 y1
        go_wp2_with fail
        clear hW
        (apply rel.region_tail (C := fun w' => Below W.heap.size W w') (X := fun w w' => Below w.heap.size w w') 6 (by kernel_rfl) (by kernel_rfl) (by kernel_rfl) (by kernel_rfl) ((Below.refl _ _).drew); ((apply rel.walk_val; (focus (intro wq hq hf; (have d0 := (((BT).below hq (BT).lt)).cell 0; simp only [List.getElem?_cons_zero] at d0); go_wp2; refine ⟨hq, Below.refl _ _, ?_, rfl⟩; (show rel.slot _ _ = _; simp only [rel.slot_lit, List.getD_cons_succ, List.getD_cons_zero]; (first | done | exact rfl)))); (simp only [rel.put_lit, List.set_cons_succ, List.set_cons_zero]))); (apply rel.walk_val; (focus (intro wq hq hf; go_wp2; refine ⟨hq, Below.refl _ _, ?_, rfl⟩; (show rel.slot _ _ = _; simp only [rel.slot_lit, List.getD_cons_succ, List.getD_cons_zero]; (first | done | exact rfl)))); (simp only [rel.put_lit, List.set_cons_succ, List.set_cons_zero])); (apply rel.walk_val; (focus (intro wq hq hf; go_wp2; refine ⟨hq, Below.refl _ _, ?_, rfl⟩; (show rel.slot _ _ = _; simp only [rel.slot_lit, List.getD_cons_succ, List.getD_cons_zero]; (first | done | exact rfl)))); (simp only [rel.put_lit, List.set_cons_succ, List.set_cons_zero])); (apply rel.walk_val; (focus (intro wq hq hf; go_wp2; refine ⟨hq, Below.refl _ _, ?_, rfl⟩; (show rel.slot _ _ = _; simp only [rel.slot_lit, List.getD_cons_succ, List.getD_cons_zero]; (first | done | exact rfl)))); (simp only [rel.put_lit, List.set_cons_succ, List.set_cons_zero])); ((apply rel.walk_val; (focus (intro wq hq hf; (have d0 := (hq.cell (p := ⟨b, off + j, none⟩) hbw).trans kp); go_wp2; refine ⟨hq, Below.refl _ _, ?_, rfl⟩; (show rel.slot _ _ = _; simp only [rel.slot_lit, List.getD_cons_succ, List.getD_cons_zero]; (first | done | exact rfl)))); (simp only [rel.put_lit, List.set_cons_succ, List.set_cons_zero]))); (apply rel.walk_rel (fun u w' => fin.IsT w' u (AA)) ⟨_, rfl⟩ (fun u w1 w2 h1 h2 => h2.on h1); (focus (intro wq hq hf; go_wp2_with (go_at_call 11; with_reducible refine (H1 _ hq).mono ?_; rintro e w'' ⟨⟨u, rfl, hu⟩, hb⟩); refine ⟨hq.trans (hb.mono hq.size), hb, ?_, rfl⟩; (show fin.IsT _ (rel.slot _ _) _; simp only [rel.slot_lit, List.getD_cons_succ, List.getD_cons_zero]; exact hu))); (intro u wu _ hu; obtain ⟨pu, rfl⟩ := fin.IsT.val hu; (simp only [rel.put_lit, List.set_cons_succ, List.set_cons_zero]))); (refine rel.walk_nil ?_; intro w9 K9 hF; have hu9 := hF _ (List.mem_cons_self ..); clear hF); simp only [List.drop_succ_cons, List.drop_zero])
        have BR9 := BR.on K9
        have d0 := BR9.cell 0
        have df := BR9.free
        simp only [List.getElem?_cons_zero] at d0
        obtain ⟨W2, hW2⟩ : ∃ W2, w9.setCell ⟨wr.heap.size, 0, none⟩ (.pointer pu) = W2 := ⟨_, rfl⟩
        have hT2 : fin.IsT W2 (.agg #[.pointer pu]) AA := by rw [← hW2]; exact hu9.keep (keep_tree BR9 _ _)
        have hv2 : IsI W2 (.slice av a.length cv) a := by rw [← hW2]; exact (hv.on K9).keep BR9
        have BT2 : hp.Blk W2 g 28 [.pointer p] := by rw [← hW2]; exact (BT.on K9).other hne _
        have BR2 : hp.Blk W2 wr.heap.size 28 [.pointer pu] := by rw [← hW2]; exact BR9.set 0 _
        have K2 : Below w.heap.size w W2 := by rw [← hW2]; exact (K.trans (K9.mono K.size)).setCell (p := ⟨wr.heap.size, 0, none⟩) hgrw _
        obtain ⟨b', off', e', hbw2, kp2⟩ := X0.out W2 K2
        cases e'
        clear H1 hT hv BT BR BR9 K9 hu9 hbw kp K
        have C : ∀ V (h : Below W2.heap.size W2 V), Calls Try.prog 12 #[.slice av a.length cv, .slice none 0 0] V fun e w' => (∃ u, e = .returned u ∧ w'.ownsRow W2.heap.size 3 1 u a.length (a.map (Value.int .i64))) ∧ Below V.heap.size V w' := fun V h =>
          (same.cat_own _ a _ [] V (hv2.on h).ints (hp.IsInts.nil _ _) (by simp; omega)).mono fun e w' ⟨⟨u, he, hu⟩, hb⟩ => ⟨⟨u, he, own_low (by simpa using hu) h.size⟩, hb⟩
        go_wp2_with fail
        clear hW2 d0 df
        apply rel.region_tail (C := fun w' => Below W2.heap.size W2 w') (X := fun w w' => Below w.heap.size w w') 7 (by kernel_rfl) (by kernel_rfl) (by kernel_rfl) (by kernel_rfl) ((Below.refl _ _).drew)
        (apply rel.walk_val; (focus (intro wq hq hf; go_wp2; refine ⟨hq, Below.refl _ _, ?_, rfl⟩; (show rel.slot _ _ = _; simp only [rel.slot_lit, List.getD_cons_succ, List.getD_cons_zero]; (first | done | exact rfl)))); (simp only [rel.put_lit, List.set_cons_succ, List.set_cons_zero]))
        (apply rel.walk_rel (fun u w' => w'.ownsRow (W2.heap.size) 3 1 u (a.length) ((a.map (Value.int .i64)))) ⟨_, rfl⟩ (fun u w1 w2 h1 h2 => hp.row_on h2 h1); (focus (intro wq hq hf; go_wp2_with (go_at_call 12; with_reducible refine (C _ hq).mono ?_; rintro e w'' ⟨⟨u, rfl, hu⟩, hb⟩); refine ⟨hq.trans (hb.mono hq.size), hb, ?_, rfl⟩; (show World.ownsRow _ _ _ _ (rel.slot _ _) _ _; simp only [rel.slot_lit, List.getD_cons_succ, List.getD_cons_zero]; exact hu))); (intro u wu _ hu; obtain ⟨a_pc, c_pc, rfl⟩ := fingerTells.own_val hu; (simp only [rel.put_lit, List.set_cons_succ, List.set_cons_zero])))
        (apply rel.walk_val; (focus (intro wq hq hf; go_wp2; refine ⟨hq, Below.refl _ _, ?_, rfl⟩; (show rel.slot _ _ = _; simp only [rel.slot_lit, List.getD_cons_succ, List.getD_cons_zero]; (first | done | exact rfl)))); (simp only [rel.put_lit, List.set_cons_succ, List.set_cons_zero]))
        (apply rel.walk_val; (focus (intro wq hq hf; go_wp2; refine ⟨hq, Below.refl _ _, ?_, rfl⟩; (show rel.slot _ _ = _; simp only [rel.slot_lit, List.getD_cons_succ, List.getD_cons_zero]; (first | done | exact rfl)))); (simp only [rel.put_lit, List.set_cons_succ, List.set_cons_zero]))
        (apply rel.walk_val; (focus (intro wq hq hf; go_wp2; refine ⟨hq, Below.refl _ _, ?_, rfl⟩; (show rel.slot _ _ = _; simp only [rel.slot_lit, List.getD_cons_succ, List.getD_cons_zero]; (first | done | exact rfl)))); (simp only [rel.put_lit, List.set_cons_succ, List.set_cons_zero]))
        ((apply rel.walk_val; (focus (intro wq hq hf; (have d0 := (hq.cell (p := ⟨b, off + j, none⟩) hbw2).trans kp2); go_wp2; refine ⟨hq, Below.refl _ _, ?_, rfl⟩; (show rel.slot _ _ = _; simp only [rel.slot_lit, List.getD_cons_succ, List.getD_cons_zero]; (first | done | exact rfl)))); (simp only [rel.put_lit, List.set_cons_succ, List.set_cons_zero])))
        (apply rel.walk_rel (fun u w' => ∃ γ, u = .slice (some ⟨γ, 0, none⟩) 1 1 ∧ hp.Blk w' γ 3 ([.int .i64 x])) ⟨_, rfl⟩ (fun u w1 w2 h1 h2 => by obtain ⟨γ, he, hk⟩ := h2; exact ⟨γ, he, hk.on h1⟩); (focus (intro wq hq hf; go_wp2; refine ⟨hq.alloc hq.size _, (Below.refl _ _).alloc (Nat.le_refl _) _, ?_, rfl⟩; (show ∃ γ, rel.slot _ _ = _ ∧ _; simp only [rel.slot_lit, List.getD_cons_succ, List.getD_cons_zero]; exact ⟨_, rfl, hp.Blk.new _ _ _⟩))); (intro u wu _ hu; obtain ⟨ps, rfl, -⟩ := hu; (simp only [rel.put_lit, List.set_cons_succ, List.set_cons_zero])))
        refine rel.walk_nil ?_
        intro w9 K9 hF
        have f1 := blk_ex (hF _ (List.mem_cons_self ..))
        have f2 := hF _ (List.mem_cons_of_mem _ (List.mem_cons_self ..))
        clear hF C
        simp only [List.drop_succ_cons, List.drop_zero]
        go_wp2_with (first
          | (at_builtin; refine hp.append_ints rfl _ _ 22 rfl W2.heap.size 3 Try.underlying22 same.infoInt _ a.length a rfl f2 _ [x] rfl (ints_one f1 hxw) (by simp; omega) K9.size ?_; intro u5 w5 own5 gr5; have Kx : Below W2.heap.size W2 w5 := K9.grown gr5 K9.size (fun k hk => (World.ownsRow.lt f2 k hk).1); have BT := BT2.on Kx; have BR := BR2.on Kx; have hT := hT2.on Kx; have K := K2.trans (Kx.mono K2.size); have hv := IsI.of_owns (l := AA) (by rw [← hAA.out]; exact own5) (by rw [← hAA.out]; simp) hT2.wf; (obtain ⟨a5, n5, c5, rfl⟩ := hv.val); clear gr5 own5 Kx BT2 BR2 hT2 hv2 K2 f1 f2; (have rT := BT.cell 0; have rTf := BT.free; have rR := BR.cell 0; have lR := BR.lt; simp only [List.getElem?_cons_zero] at rT rR; (obtain ⟨W6, hW6⟩ : ∃ W6, (w5).setCell ⟨g, 0, none⟩ (.pointer pu) = W6 := ⟨_, rfl⟩); have BT6 : hp.Blk W6 g 28 [.pointer pu] := (by rw [← hW6]; exact BT.set 0 _); have hT6 : fin.IsT W6 (.agg #[.pointer pu]) (AA) := (by rw [← hW6]; exact hT.keep (keep_tree BT _ _)); have hv6 := (show fingerTells.IsI W6 _ (AA) by rw [← hW6]; exact hv.keep BT); have K6 : Below w.heap.size w W6 := (by rw [← hW6]; exact K.setCell (p := ⟨g, 0, none⟩) hgw _); have q0 := BT6.cell 0; have lT6 := BT6.lt; simp only [List.getElem?_cons_zero] at q0; have I1 := ints_any _ (AA) W6 hT6 ((by omega)); clear hT hv BT BR K))
          | (go_at_call 16; (with_reducible refine I1.mono ?_); clear I1; rintro e wi ⟨⟨u, rfl, hi⟩, hb⟩; have hiv := hi; (obtain ⟨_, _, rfl, -⟩ := hiv); replace BT6 := BT6.on hb; replace hT6 := hT6.on hb; replace hv6 := hv6.on hb; replace K6 := K6.trans (hb.mono K6.size); clear hb hW6) | (go_at_call 15; (with_reducible refine (same.ints_eq rfl hi hv6.ints).mono ?_); clear hi q0; rintro e ws ⟨rfl, hb⟩; replace BT6 := BT6.on hb; replace hT6 := hT6.on hb; replace hv6 := hv6.on hb; replace K6 := K6.trans (hb.mono K6.size); clear hb; have q0 := BT6.cell 0; have lq := BT6.lt; simp only [List.getElem?_cons_zero] at q0) | (go_at_call 17; (with_reducible refine (measure_any hT6).mono ?_); rintro e wm ⟨rfl, hb⟩; replace BT6 := BT6.on hb; replace hT6 := hT6.on hb; replace hv6 := hv6.on hb; replace K6 := K6.trans (hb.mono K6.size); clear hb) | (go_at_call 18; (with_reducible refine (ref.measureOf_any _ (AA) _ hv6.ints).mono ?_); rintro e wn ⟨rfl, hb⟩; replace BT6 := BT6.on hb; replace hT6 := hT6.on hb; replace hv6 := hv6.on hb; replace K6 := K6.trans (hb.mono K6.size); clear hb))
        (go_roundw; (case rel => exact ⟨j + 1, _, AA, by go_num, by omega, lAA, K6, BT6, hT6, hv6⟩); (case measure => simp [intOf]; omega))
      have e0 : (y == 0) = false := beq_false_of_ne y0
      have e1 : (y == 1) = false := beq_false_of_ne y1
      clear y0 y1
      rcases List.eq_nil_or_concat a with ea | ⟨a', z, ea⟩
      · -- nothing is there
        have hT0 : fin.IsT W (.agg #[.pointer p]) [] := ea ▸ hT
        have ha0 : ((a.length : Int) == 0) = true := by rw [ea]; rfl
        have P1 := popLeft_nil W hT0
        have P2 := fun V (h : Below W.heap.size W V) => popRight_nil V (hT0.on h)
        have lAA : a.length ≤ j + 1 := by omega
        obtain ⟨AA, hAA⟩ : ∃ A, A = a := ⟨_, rfl⟩
        rw [← hAA] at lAA hT hv
        rw [← hAA] at ha0 hvc ⊢
        clear hT0 ea ha hAA
        go_wp2_with (first
          | (go_at_call 13; (with_reducible refine P1.mono ?_); clear P1 hW; rintro e wx ⟨rfl, hb⟩; have Kx := hb.alloc hb.size (.cells #[.pointer none] 28); have eT' := (BT.on Kx).cell 0; have lT' := (BT.on Kx).lt; simp only [List.getElem?_cons_zero] at eT'; clear hb)
          | (go_at_call 14; (with_reducible refine (P2 _ Kx).mono ?_); clear P2 eT'; rintro e wy ⟨rfl, hb⟩; have Ky := Kx.trans (hb.mono Kx.size); have Kz := Ky.alloc Ky.size (.cells #[.pointer none] 28); replace BT := BT.on Kz; replace BR := BR.on Kz; replace hT := hT.on Kz; replace hv := hv.on Kz; replace K := K.trans (Kz.mono K.size); clear Kx Ky Kz hb; (have rT := BT.cell 0; have rTf := BT.free; have rR := BR.cell 0; have lR := BR.lt; simp only [List.getElem?_cons_zero] at rT rR; (obtain ⟨W6, hW6⟩ : ∃ W6, ((wy.alloc (.cells #[.pointer none] 28))).setCell ⟨g, 0, none⟩ (.pointer p) = W6 := ⟨_, rfl⟩); have BT6 : hp.Blk W6 g 28 [.pointer p] := (by rw [← hW6]; exact BT.set 0 _); have hT6 : fin.IsT W6 (.agg #[.pointer p]) (AA) := (by rw [← hW6]; exact hT.keep (keep_tree BT _ _)); have hv6 := (show fingerTells.IsI W6 _ (AA) by rw [← hW6]; exact hv.keep BT); have K6 : Below w.heap.size w W6 := (by rw [← hW6]; exact K.setCell (p := ⟨g, 0, none⟩) hgw _); have q0 := BT6.cell 0; have lT6 := BT6.lt; simp only [List.getElem?_cons_zero] at q0; have I1 := ints_any _ (AA) W6 hT6 ((by omega)); clear hT hv BT BR K))
          | (go_at_call 16; (with_reducible refine I1.mono ?_); clear I1; rintro e wi ⟨⟨u, rfl, hi⟩, hb⟩; have hiv := hi; (obtain ⟨_, _, rfl, -⟩ := hiv); replace BT6 := BT6.on hb; replace hT6 := hT6.on hb; replace hv6 := hv6.on hb; replace K6 := K6.trans (hb.mono K6.size); clear hb hW6) | (go_at_call 15; (with_reducible refine (same.ints_eq rfl hi hv6.ints).mono ?_); clear hi q0; rintro e ws ⟨rfl, hb⟩; replace BT6 := BT6.on hb; replace hT6 := hT6.on hb; replace hv6 := hv6.on hb; replace K6 := K6.trans (hb.mono K6.size); clear hb; have q0 := BT6.cell 0; have lq := BT6.lt; simp only [List.getElem?_cons_zero] at q0) | (go_at_call 17; (with_reducible refine (measure_any hT6).mono ?_); rintro e wm ⟨rfl, hb⟩; replace BT6 := BT6.on hb; replace hT6 := hT6.on hb; replace hv6 := hv6.on hb; replace K6 := K6.trans (hb.mono K6.size); clear hb) | (go_at_call 18; (with_reducible refine (ref.measureOf_any _ (AA) _ hv6.ints).mono ?_); rintro e wn ⟨rfl, hb⟩; replace BT6 := BT6.on hb; replace hT6 := hT6.on hb; replace hv6 := hv6.on hb; replace K6 := K6.trans (hb.mono K6.size); clear hb))
        (go_roundw; (case rel => exact ⟨j + 1, _, AA, by go_num, by omega, lAA, K6, BT6, hT6, hv6⟩); (case measure => simp [intOf]; omega))
      · rw [List.concat_eq_append] at ea
        have ha0 : ((a.length : Int) == 0) = false := beq_false_of_ne (by rw [ea]; simp; omega)
        have hap : 0 < a.length := by rw [ea]; simp
        by_cases y2 : y = 2
        · have e2 : (y == 2) = true := by rw [y2]; rfl
          obtain ⟨z, AA, hAA⟩ : ∃ z A, z :: A = a := by
            cases a with
            | nil => simp at hap
            | cons z A => exact ⟨z, A, rfl⟩
          have lAA0 : AA.length + 1 = a.length := by rw [← hAA]; simp
          have lAA : AA.length ≤ j + 1 := by omega
          have P1 := popLeft a hT hAA (by omega)
          obtain ⟨bv, ov, rfl, hbv, -⟩ := hv.ints.at hap
          have hs := hv.sliced (i := 1) (j := a.length) (by omega) (Nat.le_refl _)
          rw [List.take_length, show a.drop 1 = AA by rw [← hAA]; rfl] at hs
          obtain ⟨a5, n5, c5, e5⟩ := hs.val
          rw [e5] at hs
          have hcell : ∀ V, IsI V (.slice (some ⟨bv, ov, none⟩) a.length cv) a → V.cell? ⟨bv, ov, none⟩ = some (.int .i64 z) ∧ bv < V.heap.size := by
            intro V h
            obtain ⟨b2, o2, e, hb2, hc2⟩ := h.ints.at hap
            cases e
            have := hc2 0 hap
            rw [← hAA] at this
            exact ⟨by simpa using this, hb2⟩
          replace hcell := Lib.hid hcell
          replace lAA0 := Lib.hid lAA0
          clear y2 hAA ea
          go_wp2_with (first
            | (go_at_call 13; (with_reducible refine P1.mono ?_); clear P1 hW; rintro e wx ⟨⟨pu, rfl, hq⟩, Kx⟩; have BR9 := BR.on Kx; have d0 := BR9.cell 0; have df := BR9.free; simp only [List.getElem?_cons_zero] at d0; (obtain ⟨W2, hW2⟩ : ∃ W2, wx.setCell ⟨wr.heap.size, 0, none⟩ (.pointer pu) = W2 := ⟨_, rfl⟩); have hvA := (show IsI W2 (.slice (some ⟨bv, ov, none⟩) a.length cv) a by rw [← hW2]; exact (hv.on Kx).keep BR9); (obtain ⟨hz1, hz2⟩ := hcell.out W2 hvA); have hT2 := (show fin.IsT W2 (.agg #[.pointer pu]) AA by rw [← hW2]; exact hq.keep (keep_tree BR9 _ _)); have hv2 := (show IsI W2 (.slice a5 n5 c5) AA by rw [← hW2]; exact (hs.on Kx).keep BR9); have BT2 := (show hp.Blk W2 g 28 [.pointer p] by rw [← hW2]; exact (BT.on Kx).other hne _); have BR2 := (show hp.Blk W2 wr.heap.size 28 [.pointer pu] by rw [← hW2]; exact BR9.set 0 _); have K2 := (show Below w.heap.size w W2 by rw [← hW2]; exact (K.trans (Kx.mono K.size)).setCell (p := ⟨wr.heap.size, 0, none⟩) hgrw _); clear hvA hs hq hT hv BT BR K Kx BR9 eT; have BT := BT2; have BR := BR2; have K := K2; have hT := hT2; have hv := hv2; clear BT2 BR2 K2 hT2 hv2; (have rT := BT.cell 0; have rTf := BT.free; have rR := BR.cell 0; have lR := BR.lt; simp only [List.getElem?_cons_zero] at rT rR; (obtain ⟨W6, hW6⟩ : ∃ W6, (W2).setCell ⟨g, 0, none⟩ (.pointer pu) = W6 := ⟨_, rfl⟩); have BT6 : hp.Blk W6 g 28 [.pointer pu] := (by rw [← hW6]; exact BT.set 0 _); have hT6 : fin.IsT W6 (.agg #[.pointer pu]) (AA) := (by rw [← hW6]; exact hT.keep (keep_tree BT _ _)); have hv6 := (show fingerTells.IsI W6 _ (AA) by rw [← hW6]; exact hv.keep BT); have K6 : Below w.heap.size w W6 := (by rw [← hW6]; exact K.setCell (p := ⟨g, 0, none⟩) hgw _); have q0 := BT6.cell 0; have lT6 := BT6.lt; simp only [List.getElem?_cons_zero] at q0; have I1 := ints_any _ (AA) W6 hT6 ((by have := lAA0.out; omega)); clear hT hv BT BR K))
            | (go_at_call 16; (with_reducible refine I1.mono ?_); clear I1; rintro e wi ⟨⟨u, rfl, hi⟩, hb⟩; have hiv := hi; (obtain ⟨_, _, rfl, -⟩ := hiv); replace BT6 := BT6.on hb; replace hT6 := hT6.on hb; replace hv6 := hv6.on hb; replace K6 := K6.trans (hb.mono K6.size); clear hb hW6) | (go_at_call 15; (with_reducible refine (same.ints_eq rfl hi hv6.ints).mono ?_); clear hi q0; rintro e ws ⟨rfl, hb⟩; replace BT6 := BT6.on hb; replace hT6 := hT6.on hb; replace hv6 := hv6.on hb; replace K6 := K6.trans (hb.mono K6.size); clear hb; have q0 := BT6.cell 0; have lq := BT6.lt; simp only [List.getElem?_cons_zero] at q0) | (go_at_call 17; (with_reducible refine (measure_any hT6).mono ?_); rintro e wm ⟨rfl, hb⟩; replace BT6 := BT6.on hb; replace hT6 := hT6.on hb; replace hv6 := hv6.on hb; replace K6 := K6.trans (hb.mono K6.size); clear hb) | (go_at_call 18; (with_reducible refine (ref.measureOf_any _ (AA) _ hv6.ints).mono ?_); rintro e wn ⟨rfl, hb⟩; replace BT6 := BT6.on hb; replace hT6 := hT6.on hb; replace hv6 := hv6.on hb; replace K6 := K6.trans (hb.mono K6.size); clear hb))
          (go_roundw; (case rel => exact ⟨j + 1, _, AA, by go_num, by omega, lAA, K6, BT6, hT6, hv6⟩); (case measure => simp [intOf]; omega))
        · have e2 : (y == 2) = false := beq_false_of_ne y2
          obtain ⟨AA, hAA⟩ : ∃ A, A ++ [z] = a := ⟨a', ea.symm⟩
          obtain ⟨q1, hq1⟩ : ∃ q, AA.length = q := ⟨_, rfl⟩
          have hL : a.length = q1 + 1 := by rw [← hAA, List.length_append, hq1]; rfl
          have lAA : AA.length ≤ j + 1 := by omega
          have P1 := popRight a hT hAA (by omega)
          have hs := hv.sliced (i := 0) (j := q1) (Nat.zero_le _) (by omega)
          rw [List.drop_zero, show a.take q1 = AA by rw [← hAA, ← hq1]; simp] at hs
          obtain ⟨a5, n5, c5, e5⟩ := hs.val
          rw [e5] at hs
          have ha1 : ((q1 : Int) + 1 == 0) = false := beq_false_of_ne (by omega)
          obtain ⟨bv, ov, rfl, hbv, -⟩ := hv.ints.at hap
          have hcell : ∀ V, IsI V (.slice (some ⟨bv, ov, none⟩) (q1 + 1) cv) a → V.cell? ⟨bv, ov + q1, none⟩ = some (.int .i64 z) ∧ bv < V.heap.size := by
            intro V h
            obtain ⟨b2, o2, e, hb2, hc2⟩ := h.ints.at hap
            cases e
            have := hc2 q1 (by omega)
            rw [← hAA, ← hq1] at this
            exact ⟨by simpa [hq1] using this, hb2⟩
          have hq1c : q1 ≤ cv := by omega
          rw [hL] at hv ⊢
          replace hcell := Lib.hid hcell
          replace hL := Lib.hid hL
          replace hq1 := Lib.hid hq1
          have hq1b : q1 ≤ 17592186043904 := by have := hL.out; omega
          clear y2 hAA ea hap hvc ha0
          go_wp2_with (first
            | (go_at_call 14; (with_reducible refine P1.mono ?_); clear P1 hW; rintro e wx ⟨⟨pu, rfl, hq⟩, Kx⟩; have BR9 := BR.on Kx; have d0 := BR9.cell 0; have df := BR9.free; simp only [List.getElem?_cons_zero] at d0; (obtain ⟨W2, hW2⟩ : ∃ W2, wx.setCell ⟨wr.heap.size, 0, none⟩ (.pointer pu) = W2 := ⟨_, rfl⟩); have hvA := (show IsI W2 (.slice (some ⟨bv, ov, none⟩) (q1 + 1) cv) a by rw [← hW2]; exact (hv.on Kx).keep BR9); (obtain ⟨hz1, hz2⟩ := hcell.out W2 hvA); have hT2 := (show fin.IsT W2 (.agg #[.pointer pu]) AA by rw [← hW2]; exact hq.keep (keep_tree BR9 _ _)); have hv2 := (show IsI W2 (.slice a5 n5 c5) AA by rw [← hW2]; exact (hs.on Kx).keep BR9); have BT2 := (show hp.Blk W2 g 28 [.pointer p] by rw [← hW2]; exact (BT.on Kx).other hne _); have BR2 := (show hp.Blk W2 wr.heap.size 28 [.pointer pu] by rw [← hW2]; exact BR9.set 0 _); have K2 := (show Below w.heap.size w W2 by rw [← hW2]; exact (K.trans (Kx.mono K.size)).setCell (p := ⟨wr.heap.size, 0, none⟩) hgrw _); clear hvA hs hq hT hv BT BR K Kx BR9 eT; have BT := BT2; have BR := BR2; have K := K2; have hT := hT2; have hv := hv2; clear BT2 BR2 K2 hT2 hv2; (have rT := BT.cell 0; have rTf := BT.free; have rR := BR.cell 0; have lR := BR.lt; simp only [List.getElem?_cons_zero] at rT rR; (obtain ⟨W6, hW6⟩ : ∃ W6, (W2).setCell ⟨g, 0, none⟩ (.pointer pu) = W6 := ⟨_, rfl⟩); have BT6 : hp.Blk W6 g 28 [.pointer pu] := (by rw [← hW6]; exact BT.set 0 _); have hT6 : fin.IsT W6 (.agg #[.pointer pu]) (AA) := (by rw [← hW6]; exact hT.keep (keep_tree BT _ _)); have hv6 := (show fingerTells.IsI W6 _ (AA) by rw [← hW6]; exact hv.keep BT); have K6 : Below w.heap.size w W6 := (by rw [← hW6]; exact K.setCell (p := ⟨g, 0, none⟩) hgw _); have q0 := BT6.cell 0; have lT6 := BT6.lt; simp only [List.getElem?_cons_zero] at q0; have I1 := ints_any _ (AA) W6 hT6 ((by have := hq1.out; omega)); clear hT hv BT BR K))
            | (go_at_call 16; (with_reducible refine I1.mono ?_); clear I1; rintro e wi ⟨⟨u, rfl, hi⟩, hb⟩; have hiv := hi; (obtain ⟨_, _, rfl, -⟩ := hiv); replace BT6 := BT6.on hb; replace hT6 := hT6.on hb; replace hv6 := hv6.on hb; replace K6 := K6.trans (hb.mono K6.size); clear hb hW6) | (go_at_call 15; (with_reducible refine (same.ints_eq rfl hi hv6.ints).mono ?_); clear hi q0; rintro e ws ⟨rfl, hb⟩; replace BT6 := BT6.on hb; replace hT6 := hT6.on hb; replace hv6 := hv6.on hb; replace K6 := K6.trans (hb.mono K6.size); clear hb; have q0 := BT6.cell 0; have lq := BT6.lt; simp only [List.getElem?_cons_zero] at q0) | (go_at_call 17; (with_reducible refine (measure_any hT6).mono ?_); rintro e wm ⟨rfl, hb⟩; replace BT6 := BT6.on hb; replace hT6 := hT6.on hb; replace hv6 := hv6.on hb; replace K6 := K6.trans (hb.mono K6.size); clear hb) | (go_at_call 18; (with_reducible refine (ref.measureOf_any _ (AA) _ hv6.ints).mono ?_); rintro e wn ⟨rfl, hb⟩; replace BT6 := BT6.on hb; replace hT6 := hT6.on hb; replace hv6 := hv6.on hb; replace K6 := K6.trans (hb.mono K6.size); clear hb))
          (go_roundw; (case rel => exact ⟨j + 1, _, AA, by go_num, by omega, lAA, K6, BT6, hT6, hv6⟩); (case measure => simp [intOf]; omega))
    · by_cases hjn : j < n
      · have hjm : ¬ j < m := fun h => hlt ⟨hjn, h⟩
        clear hlt hT hv BT hc0' hc1'
        (go_wp2_with (first | (go_at_call 19; (with_reducible refine (O1 _ K).mono ?_); clear O1; rintro e wx ⟨⟨u, rfl, hu⟩, hb⟩; (obtain ⟨pq, rfl⟩ := hu.val); (replace K := K.trans ((hb).mono K.size); clear hb)) | (go_at_call 16; (with_reducible refine (ints_any _ l0 _ hu (by have := hn'.out; omega)).mono ?_); rintro e wy ⟨⟨u2, rfl, hi⟩, hb⟩; (replace K := K.trans ((hb).mono K.size); clear hb)) | (go_at_call 15; (with_reducible refine (S1 _ _ K hi).mono ?_); rintro e wz ⟨rfl, hb⟩; (replace K := K.trans ((hb).mono K.size); clear hb))); go_ret; exact ⟨rfl, K⟩)
      · clear hlt hT hv BT hc0' hc1'
        (go_wp2_with (first | (go_at_call 19; (with_reducible refine (O1 _ K).mono ?_); clear O1; rintro e wx ⟨⟨u, rfl, hu⟩, hb⟩; (obtain ⟨pq, rfl⟩ := hu.val); (replace K := K.trans ((hb).mono K.size); clear hb)) | (go_at_call 16; (with_reducible refine (ints_any _ l0 _ hu (by have := hn'.out; omega)).mono ?_); rintro e wy ⟨⟨u2, rfl, hi⟩, hb⟩; (replace K := K.trans ((hb).mono K.size); clear hb)) | (go_at_call 15; (with_reducible refine (S1 _ _ K hi).mono ?_); rintro e wz ⟨rfl, hb⟩; (replace K := K.trans ((hb).mono K.size); clear hb))); go_ret; exact ⟨rfl, K⟩)
end Go.Proofs.Yteolbbdokhmjgaa.fingerTells
