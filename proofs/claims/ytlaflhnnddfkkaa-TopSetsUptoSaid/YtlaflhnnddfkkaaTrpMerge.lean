/- Package treap: merged. -/
import Derived.Test.YtlaflhnnddfkkaaTrpMath
import Derived.Deep.LoopGhost
namespace Go.Proofs.Ytlaflhnnddfkkaa.trp
open Go Go.RowKit
open Go.Proofs.Ytlaflhnnddfkkaa.sch
set_option linter.unusedVariables false

/-- what is before the other is taken -/
theorem take_any {w W : World} {b b' : Nat} {r r' : Option Nat} {f : Bool} {K : List Int} {M a : Nat} {D : List Int} {T t1 t2 : Tr} {st1 st2 : Wt} {A B : List Int} {c : Nat} {v : Value} {p : Option Addr} (hm : Mst f K M a D T t1 t2 st1 st2 A B c) (hb : bef t1 st1 t2 st2 = true)
    (hG : Gr W w.heap.size b r D T) (hR : Rs w W b' r' t1 st1 v p) (hD : D.length < 4398046511104) (hst : st1.length < 4398046511104) :
    Calls Try.prog 81 #[.pointer (some ⟨b, 0, none⟩), .pointer (some ⟨b', 0, none⟩)] W fun e W' => e = .returned (.tuple #[]) ∧
      (∃ r2 r2' D' T' t' st' v2 p2, Gr W' w.heap.size b r2 D' T' ∧ Rs w W' b' r2' t' st' v2 p2 ∧ Hid ((∃ A', Mst f K M a D' T' t' t2 st' st2 A' B c) ∧ todo t' st' < todo t1 st1) ∧ Third w W W' b' r' r2') ∧ Below w.heap.size w W' := by
  rcases t1 with _ | ⟨x, m, l, k⟩
  · have hE : emp .nil st1 = false := by
      cases e1 : emp .nil st1
      · rfl
      · unfold bef at hb
        rw [if_pos (by simp [e1])] at hb
        simp [e1] at hb
    obtain ⟨q, x, m, l, k, s, rfl⟩ := emp_false hm.one rfl hE
    have hl : s.length < 4398046511104 := by simp only [List.length_cons] at hst; omega
    refine (take_next hG hR (hm.pre_next hb) hD hl).mono ?_
    rintro e W' ⟨rfl, ⟨r2, v2, p2, h1, h2, -⟩, h3, h4⟩
    obtain ⟨A', h5, h6⟩ := hm.take hb (D' := D ++ [x]) (T' := .nil) (t1' := k) (st1' := s) (.inl ⟨rfl, rfl, q, x, m, l, rfl, rfl⟩)
    exact ⟨rfl, ⟨r2, r', _, _, k, s, v2, p2, h1, h2, ⟨⟨A', h5⟩, h6⟩, h3⟩, h4⟩
  · obtain rfl := hm.pre_tree (by simp)
    refine (take_tree hG hR hm.one.tree hD hst).mono ?_
    rintro e W' ⟨rfl, ⟨r2, r2', D', T', t', st', v2, p2, h1, h2, hk, -, h3⟩, h4⟩
    obtain ⟨A', h5, h6⟩ := hm.take hb hk
    exact ⟨rfl, ⟨r2, r2', D', T', t', st', v2, p2, h1, h2, ⟨⟨A', h5⟩, h6⟩, h3⟩, h4⟩

set_option maxHeartbeats 16000000 in
theorem merged_any {w : World} {p1 p2 : Option Addr} {s t : Tr} {f : Bool} (hs : Nod w.heap.size w s p1) (ht : Nod w.heap.size w t p2) (h1 : Tp s) (h2 : Tp t) (a1 : Asc (keys s)) (a2 : Asc (keys t)) (hbd : (keys s).length + (keys t).length < 4398046511104) :
    Calls Try.prog 57 #[.pointer p1, .pointer p2, .bool f] w fun e w' => (∃ q c, e = .returned (.tuple #[.pointer q, .int .i64 ((c : Nat) : Int)]) ∧ IsG w' (.pointer q) (Good (mrg f (keys s) (keys t))) ∧ (f = true → (mrg f (keys s) (keys t)).length + c = (keys s).length + (keys t).length)) ∧ Below w.heap.size w w' := by
  have hstart := Lib.hid (Mst.start f h1 h2 a1 a2)
  generalize hK : mrg f (keys s) (keys t) = K at *
  generalize hM : (keys s).length + (keys t).length = M at *
  replace hK := Lib.hid hK
  replace hM := Lib.hid hM
  go_enter Try.func57, Try.ntmps57
  go_wp2_with fail
  have hb0 : Below w.heap.size w (((w.alloc (.cells #[.slice none 0 0, .pointer none] tyG)).alloc (.cells #[.pointer p1, .slice none 0 0] tyR)).alloc (.cells #[.pointer p2, .slice none 0 0] tyR)) := by ((repeat' (first | with_reducible exact Below.refl _ _ | with_reducible apply Below.setCell | with_reducible apply below_drewN | with_reducible apply Below.drew | with_reducible apply Below.alloc | with_reducible refine Below.trans ?_ (Below.mono (by assumption) ?_))) <;> (first | (simp; done) | (simp; omega) | omega))
  have hbx0 : hp.Blk (((w.alloc (.cells #[.slice none 0 0, .pointer none] tyG)).alloc (.cells #[.pointer p1, .slice none 0 0] tyR)).alloc (.cells #[.pointer p2, .slice none 0 0] tyR)) w.heap.size tyG [.slice none 0 0, .pointer none] := ((hp.Blk.newAt rfl).alloc _).alloc _
  have hbx1 : hp.Blk (((w.alloc (.cells #[.slice none 0 0, .pointer none] tyG)).alloc (.cells #[.pointer p1, .slice none 0 0] tyR)).alloc (.cells #[.pointer p2, .slice none 0 0] tyR)) (w.heap.size + 1) tyR [.pointer p1, .slice none 0 0] := (hp.Blk.newAt (by simp)).alloc _
  have hbx2 : hp.Blk (((w.alloc (.cells #[.slice none 0 0, .pointer none] tyG)).alloc (.cells #[.pointer p1, .slice none 0 0] tyR)).alloc (.cells #[.pointer p2, .slice none 0 0] tyR)) (w.heap.size + 1 + 1) tyR [.pointer p2, .slice none 0 0] := hp.Blk.newAt (by simp)
  have hG0 : Gr (((w.alloc (.cells #[.slice none 0 0, .pointer none] tyG)).alloc (.cells #[.pointer p1, .slice none 0 0] tyR)).alloc (.cells #[.pointer p2, .slice none 0 0] tyR)) w.heap.size w.heap.size none [] .nil := ⟨[], _, none, ⟨hbx0, World.ownsRow_nil _ _ _ _, Nat.le_refl _, rfl, by simp, rfl⟩, trivial, rfl⟩
  have hR10 : Rs w (((w.alloc (.cells #[.slice none 0 0, .pointer none] tyG)).alloc (.cells #[.pointer p1, .slice none 0 0] tyR)).alloc (.cells #[.pointer p2, .slice none 0 0] tyR)) (w.heap.size + 1) none s [] (.slice none 0 0) p1 := ⟨hbx1, by omega, rfl, World.ownsRow_nil _ _ _ _, hs, by show Up _ _; simp [Up], hb0⟩
  have hR20 : Rs w (((w.alloc (.cells #[.slice none 0 0, .pointer none] tyG)).alloc (.cells #[.pointer p1, .slice none 0 0] tyR)).alloc (.cells #[.pointer p2, .slice none 0 0] tyR)) (w.heap.size + 1 + 1) none t [] (.slice none 0 0) p2 := ⟨hbx2, by omega, rfl, World.ownsRow_nil _ _ _ _, ht, by show Up _ _; simp [Up], hb0⟩
  obtain ⟨W0, hW0⟩ : ∃ W0, (((w.alloc (.cells #[.slice none 0 0, .pointer none] tyG)).alloc (.cells #[.pointer p1, .slice none 0 0] tyR)).alloc (.cells #[.pointer p2, .slice none 0 0] tyR)) = W0 := ⟨_, rfl⟩
  rw [hW0] at hb0 hbx0 hbx1 hbx2 hG0 hR10 hR20 ⊢
  clear hbx0 hbx1 hbx2 hW0
  have hb12 : w.heap.size + 1 ≠ w.heap.size + 1 + 1 := by omega
  go_loopg [9] (todo s [] + todo t []) (fun k u W' => ∃ (D : List Int) (T t1 t2 : Tr) (st1 st2 : Wt) (c : Nat) (r r1 r2 : Option Nat) (v1 v2 : Value) (q1 q2 : Option Addr), u = .int .i64 ((c : Nat) : Int) ∧ Gr W' w.heap.size w.heap.size r D T ∧ Rs w W' (w.heap.size + 1) r1 t1 st1 v1 q1 ∧ Rs w W' (w.heap.size + 1 + 1) r2 t2 st2 v2 q2 ∧ Sep r1 r2 ∧ Hid (∃ A B, Mst f K M M D T t1 t2 st1 st2 A B c) ∧ k = todo t1 st1 + todo t2 st2 ∧ Below w.heap.size w W')
  case atStart => exact ⟨[], .nil, s, t, [], [], 0, none, none, none, _, _, p1, p2, rfl, hG0, hR10, hR20, .inl rfl, ⟨_, _, hstart.out⟩, rfl, hb0⟩
  case round =>
    clear hG0 hR10 hR20 hb0 hs ht h1 h2 a1 a2 hstart hK hM
    obtain ⟨D, T, t1, t2, st1, st2, c, r, r1, r2, v1, v2, q1, q2, rfl, hG, hR1, hR2, hsep, hmst, hk, hb⟩ := hrel
    obtain ⟨A, B, hm⟩ := hmst.out
    have hl1 := hm.one.len
    have hl2 := hm.two.len
    have hbn := hm.bound
    replace hm := Lib.hid hm
    have hn1 : st1.length < 4398046511104 := by omega
    have hn2 : st2.length < 4398046511104 := by omega
    have hD : D.length < 4398046511104 := by omega
    have hc : c < 4398046511104 := by omega
    have e1 := isEmpty_any hR1 (by omega)
    have e2 := isEmpty_any hR2 (by omega)
    have lG := fun W1 (h : Below wr.heap.size wr W1) => hG.kept (W' := W1) fun _ _ _ _ hg => hg.on h
    have lR1 := fun W1 (h : Below wr.heap.size wr W1) => hR1.kept (W' := W1) (fun _ _ _ _ hg => hg.on h) (hb.trans (h.mono hb.size))
    have lR2 := fun W1 (h : Below wr.heap.size wr W1) => hR2.kept (W' := W1) (fun _ _ _ _ hg => hg.on h) (hb.trans (h.mono hb.size))
    have i12 := isBefore_any hR1 hR2 (by omega) (by omega)
    have i21 := fun W1 (h : Below wr.heap.size wr W1) => isBefore_any (lR2 W1 h) (lR1 W1 h) (by omega) (by omega)
    clear hl1 hl2 hbn hmst
    by_cases hE : emp t1 st1 = true ∧ emp t2 st2 = true
    · obtain ⟨hE1, hE2⟩ := hE
      rw [hE1] at e1
      rw [hE2] at e2
      have hwh := whole_any hG hD
      have hdone := Lib.hid (hm.out.done hE1 hE2)
      have hbw : ∀ W2, Chg w.heap.size r wr W2 → Below w.heap.size w W2 := fun W2 h => hb.trans (h.below (Nat.le_refl _) hG.ge hb.size)
      clear i12 i21 lG lR1 lR2 hR1 hR2 hm
      go_wp2_with (first
        | (go_at_call 79; (with_reducible refine e1.mono ?_); clear e1; rintro e w1 ⟨rfl, rfl⟩)
        | (go_at_call 79; (with_reducible refine e2.mono ?_); clear e2; rintro e w1 ⟨rfl, rfl⟩)
        | (go_at_call 85; (with_reducible refine hwh.mono ?_); clear hwh; rintro e w1 ⟨⟨u, rfl, hu⟩, hc1⟩))
      obtain ⟨hEq, hcnt⟩ := hdone.out
      subst hEq
      obtain ⟨q, tt, rfl, hu3⟩ := hu
      go_ret2
      exact ⟨⟨q, c, rfl, ⟨q, tt, rfl, hu3⟩, hcnt⟩, hbw _ hc1⟩
    · rcases hE1 : emp t1 st1 with _ | _
      · rw [hE1] at e1
        rcases hB1 : bef t1 st1 t2 st2 with _ | _
        · rw [hB1] at i12
          rcases hB2 : bef t2 st2 t1 st1 with _ | _
          · rw [hB2] at i21
            rcases t2 with _ | ⟨x2, m2, l2, k2⟩
            · obtain rfl : q2 = none := hR2.tree
              rcases t1 with _ | ⟨x1, m1, l1, k1⟩
              · obtain rfl : q1 = none := hR1.tree
                obtain ⟨rfl, p, x, m, l, k, s, q, m', l', k', s', A', B', rfl, rfl, hm2, hd1, hd2⟩ := hm.out.both hB1 hB2 hE
                have nx1 := fun W1 (h : Below wr.heap.size wr W1) => next_any (lR1 W1 h) (by simp only [List.length_cons] at hn1; omega)
                have hn2' : s'.length < 4611686018427387904 := by simp only [List.length_cons] at hn2; omega
                replace hm2 := Lib.hid (And.intro hm2 (show todo k s + todo k' s' < gk from by omega))
                clear hR1 hR2 hG hE hk hm e2 hd1 hd2
                have hnil : mkLt .nil (prio x) := trivial
                rcases f with _ | _
                · go_wp2_with (first
                    | (go_at_call 79; (with_reducible refine e1.mono ?_); clear e1; rintro e w1 ⟨rfl, rfl⟩)
                    | (go_at_call 80; (with_reducible refine i12.mono ?_); clear i12; rintro e w1 ⟨rfl, hb1⟩)
                    | (go_at_call 80; (with_reducible refine (i21 _ hb1).mono ?_); clear i21; rintro e w2 ⟨rfl, hb2⟩; replace hb1 := hb1.trans (hb2.mono hb1.size); clear hb2; have y1 := (lR1 _ hb1).box.cell 0; have y2 := (lR2 _ hb1).box.cell 0; have z1 := (lR1 _ hb1).box.lt; have z2 := (lR2 _ hb1).box.lt; simp only [List.getElem?_cons_zero] at y1 y2)
                    | (go_at_call 83; (with_reducible refine (nx1 _ hb1).mono ?_); clear nx1; rintro e w3 ⟨rfl, ⟨v1', q1', hR1'⟩, hc3⟩; have hG3 := (lG _ hb1).rest (lR1 _ hb1) hc3; have hR23 := (lR1 _ hb1).chg (lR2 _ hb1) hsep hb12 hc3 hR1'.below; clear hc3)
                    | (go_at_call 83; (with_reducible refine (next_any hR23 hn2').mono ?_); rintro e w4 ⟨rfl, ⟨v2', q2', hR2'⟩, hc4⟩; have hG4 := hG3.rest hR23 hc4; have hR14 := hR23.chg hR1' hsep.symm hb12.symm hc4 hR2'.below; clear hc4 hG3 hR23 hR1'))
                  go_roundg (todo k s + todo k' s')
                  case measure => exact hm2.out.2
                  case rel => exact ⟨D, .nil, k, k', s, s', c + 1, r, r1, r2, v1', v2', q1', q2', by simp, hG4, hR14, hR2', hsep, ⟨A', B', hm2.out.1⟩, rfl, hR2'.below⟩
                · go_wp2_with (first
                    | (go_at_call 79; (with_reducible refine e1.mono ?_); clear e1; rintro e w1 ⟨rfl, rfl⟩)
                    | (go_at_call 80; (with_reducible refine i12.mono ?_); clear i12; rintro e w1 ⟨rfl, hb1⟩)
                    | (go_at_call 80; (with_reducible refine (i21 _ hb1).mono ?_); clear i21; rintro e w2 ⟨rfl, hb2⟩; replace hb1 := hb1.trans (hb2.mono hb1.size); clear hb2; have y1 := (lR1 _ hb1).box.cell 0; have y2 := (lR2 _ hb1).box.cell 0; have z1 := (lR1 _ hb1).box.lt; have z2 := (lR2 _ hb1).box.lt; simp only [List.getElem?_cons_zero] at y1 y2)
                    | (go_at_call 83; (with_reducible refine (nx1 _ hb1).mono ?_); clear nx1; rintro e w3 ⟨rfl, ⟨v1', q1', hR1'⟩, hc3⟩; have hG3 := (lG _ hb1).rest (lR1 _ hb1) hc3; have hR23 := (lR1 _ hb1).chg (lR2 _ hb1) hsep hb12 hc3 hR1'.below; clear hc3)
                    | (go_at_call 83; (with_reducible refine (next_any hR23 hn2').mono ?_); rintro e w4 ⟨rfl, ⟨v2', q2', hR2'⟩, hc4⟩; have hG4 := hG3.rest hR23 hc4; have hR14 := hR23.chg hR1' hsep.symm hb12.symm hc4 hR2'.below; clear hc4 hG3 hR23 hR1')
                    | (go_at_call 84; (with_reducible refine (add_any hG4 hnil hD hR2'.below.size).mono ?_); rintro e w5 ⟨rfl, ⟨r', hG5, hf5⟩, hc5⟩; have hb5 := hR2'.below.trans (hc5.below hG4.own hG4.ge hR2'.below.size); have hR15 := hR14.grow hG4 hc5 hb5; have hR25 := hR2'.grow hG4 hc5 hb5))
                  go_roundg (todo k s + todo k' s')
                  case measure => exact hm2.out.2
                  case rel => exact ⟨D ++ [x], .nil, k, k', s, s', c + 1, r', r1, r2, v1', v2', q1', q2', by simp, hG5, hR15, hR25, hsep, ⟨A', B', hm2.out.1⟩, rfl, hb5⟩
              · obtain ⟨g, _, _, rfl, -⟩ := hR1.tree
                obtain ⟨hm2, hd⟩ := hm.out.open1 (p := some ⟨g, 0, none⟩)
                replace hm2 := Lib.hid (And.intro hm2 (show todo l1 ((some ⟨g, 0, none⟩, .node x1 m1 l1 k1) :: st1) + todo .nil st2 < gk from by omega))
                clear hE hk hm e2 hd
                have op := fun W1 (h : Below wr.heap.size wr W1) => open_any (lR1 W1 h) hn1
                clear hR1 hR2 hG
                go_wp2_with (first
                  | (go_at_call 79; (with_reducible refine e1.mono ?_); clear e1; rintro e w1 ⟨rfl, rfl⟩)
                  | (go_at_call 80; (with_reducible refine i12.mono ?_); clear i12; rintro e w1 ⟨rfl, hb1⟩)
                  | (go_at_call 80; (with_reducible refine (i21 _ hb1).mono ?_); clear i21; rintro e w2 ⟨rfl, hb2⟩; replace hb1 := hb1.trans (hb2.mono hb1.size); clear hb2; have y1 := (lR1 _ hb1).box.cell 0; have y2 := (lR2 _ hb1).box.cell 0; have z1 := (lR1 _ hb1).box.lt; have z2 := (lR2 _ hb1).box.lt; simp only [List.getElem?_cons_zero] at y1 y2)
                  | (go_at_call 82; (with_reducible refine (op _ hb1).mono ?_); clear op; rintro e w3 ⟨rfl, ⟨r', v', p', hR', hf'⟩, hc'⟩; have hG' := (lG _ hb1).rest (lR1 _ hb1) hc'; have h4 := (lR1 _ hb1).chg (lR2 _ hb1) hsep hb12 hc' hR'.below; have hsep' := Sep.fr hsep hf' (lR2 _ hb1).lt))
                go_roundg (todo l1 ((some ⟨g, 0, none⟩, .node x1 m1 l1 k1) :: st1) + todo .nil st2)
                case measure => exact hm2.out.2
                case rel => exact ⟨D, T, l1, .nil, _, st2, c, r, r', r2, v', v2, p', none, rfl, hG', hR', h4, hsep', ⟨A, B, hm2.out.1⟩, rfl, hR'.below⟩
            · obtain ⟨g, _, _, rfl, -⟩ := hR2.tree
              obtain ⟨hm2, hd⟩ := hm.out.symm.open1 (p := some ⟨g, 0, none⟩)
              replace hm2 := Lib.hid (And.intro hm2.symm (show todo t1 st1 + todo l2 ((some ⟨g, 0, none⟩, .node x2 m2 l2 k2) :: st2) < gk from by omega))
              clear hE hk hm e2 hd
              have op := fun W1 (h : Below wr.heap.size wr W1) => open_any (lR2 W1 h) hn2
              clear hR1 hR2 hG
              go_wp2_with (first
                | (go_at_call 79; (with_reducible refine e1.mono ?_); clear e1; rintro e w1 ⟨rfl, rfl⟩)
                | (go_at_call 80; (with_reducible refine i12.mono ?_); clear i12; rintro e w1 ⟨rfl, hb1⟩)
                | (go_at_call 80; (with_reducible refine (i21 _ hb1).mono ?_); clear i21; rintro e w2 ⟨rfl, hb2⟩; replace hb1 := hb1.trans (hb2.mono hb1.size); clear hb2; have y1 := (lR1 _ hb1).box.cell 0; have y2 := (lR2 _ hb1).box.cell 0; have z1 := (lR1 _ hb1).box.lt; have z2 := (lR2 _ hb1).box.lt; simp only [List.getElem?_cons_zero] at y1 y2)
                | (go_at_call 82; (with_reducible refine (op _ hb1).mono ?_); clear op; rintro e w3 ⟨rfl, ⟨r', v', p', hR', hf'⟩, hc'⟩; have hG' := (lG _ hb1).rest (lR2 _ hb1) hc'; have h4 := (lR2 _ hb1).chg (lR1 _ hb1) hsep.symm hb12.symm hc' hR'.below; have hsep' := Sep.fr hsep.symm hf' (lR1 _ hb1).lt))
              go_roundg (todo t1 st1 + todo l2 ((some ⟨g, 0, none⟩, .node x2 m2 l2 k2) :: st2))
              case measure => exact hm2.out.2
              case rel => exact ⟨D, T, t1, l2, st1, _, c, r, r1, r', v1, v', q1, p', rfl, hG', h4, hR', hsep'.symm, ⟨A, B, hm2.out.1⟩, rfl, hR'.below⟩
          · rw [hB2] at i21
            clear e2 hE
            have tk := fun W1 (h : Below wr.heap.size wr W1) => take_any hm.out.symm hB2 (lG W1 h) (lR2 W1 h) hD hn2
            clear hR1 hR2 hG
            go_wp2_with (first
              | (go_at_call 79; (with_reducible refine e1.mono ?_); clear e1; rintro e w1 ⟨rfl, rfl⟩)
              | (go_at_call 80; (with_reducible refine i12.mono ?_); clear i12; rintro e w1 ⟨rfl, hb1⟩)
              | (go_at_call 80; (with_reducible refine (i21 _ hb1).mono ?_); clear i21; rintro e w2 ⟨rfl, hb2⟩; replace hb1 := hb1.trans (hb2.mono hb1.size); clear hb2)
              | (go_at_call 81; (with_reducible refine (tk _ hb1).mono ?_); clear tk; rintro e w3 ⟨rfl, ⟨r', r2', D', T', t', st', v', q', hG', hR', hk', h3⟩, hb3⟩; obtain ⟨h4, hsep'⟩ := h3 _ _ _ _ _ _ hb12.symm hsep.symm (lR1 _ hb1); clear h3))
            go_roundg (todo t1 st1 + todo t' st')
            case measure => have := hk'.out.2; omega
            case rel =>
              obtain ⟨A', h5⟩ := hk'.out.1
              exact ⟨D', T', t1, t', st1, st', c, r', r1, r2', v1, v', q1, q', rfl, hG', h4, hR', hsep'.symm, ⟨A, A', h5.symm⟩, rfl, hb3⟩
        · rw [hB1] at i12
          clear e2 hE
          have tk := fun W1 (h : Below wr.heap.size wr W1) => take_any hm.out hB1 (lG W1 h) (lR1 W1 h) hD hn1
          clear i21 hR1 hR2 hG
          go_wp2_with (first
            | (go_at_call 79; (with_reducible refine e1.mono ?_); clear e1; rintro e w1 ⟨rfl, rfl⟩)
            | (go_at_call 80; (with_reducible refine i12.mono ?_); clear i12; rintro e w1 ⟨rfl, hb1⟩)
            | (go_at_call 81; (with_reducible refine (tk _ hb1).mono ?_); clear tk; rintro e w3 ⟨rfl, ⟨r', r1', D', T', t', st', v', q', hG', hR', hk', h3⟩, hb3⟩; obtain ⟨h4, hsep'⟩ := h3 _ _ _ _ _ _ hb12 hsep (lR2 _ hb1); clear h3))
          go_roundg (todo t' st' + todo t2 st2)
          case measure => have := hk'.out.2; omega
          case rel =>
            obtain ⟨A', h5⟩ := hk'.out.1
            exact ⟨D', T', t', t2, st', st2, c, r', r1', r2, v', v2, q', q2, rfl, hG', hR', h4, hsep', ⟨A', B, h5⟩, rfl, hb3⟩
      · have hE2 : emp t2 st2 = false := by
          cases e : emp t2 st2
          · rfl
          · exact absurd ⟨hE1, e⟩ hE
        have hB1 : bef t1 st1 t2 st2 = false := by unfold bef; rw [if_pos (by simp [hE1])]; simp [hE1]
        have hB2 : bef t2 st2 t1 st1 = true := by unfold bef; rw [if_pos (by simp [hE1])]; simp [hE2]
        rw [hE1] at e1
        rw [hE2] at e2
        rw [hB1] at i12
        rw [hB2] at i21
        clear hE
        have tk := fun W1 (h : Below wr.heap.size wr W1) => take_any hm.out.symm hB2 (lG W1 h) (lR2 W1 h) hD hn2
        clear hR1 hR2 hG
        go_wp2_with (first
          | (go_at_call 79; (with_reducible refine e1.mono ?_); clear e1; rintro e w1 ⟨rfl, rfl⟩)
          | (go_at_call 79; (with_reducible refine e2.mono ?_); clear e2; rintro e w1 ⟨rfl, rfl⟩)
          | (go_at_call 80; (with_reducible refine i12.mono ?_); clear i12; rintro e w1 ⟨rfl, hb1⟩)
          | (go_at_call 80; (with_reducible refine (i21 _ hb1).mono ?_); clear i21; rintro e w2 ⟨rfl, hb2⟩; replace hb1 := hb1.trans (hb2.mono hb1.size); clear hb2)
          | (go_at_call 81; (with_reducible refine (tk _ hb1).mono ?_); clear tk; rintro e w3 ⟨rfl, ⟨r', r2', D', T', t', st', v', q', hG', hR', hk', h3⟩, hb3⟩; obtain ⟨h4, hsep'⟩ := h3 _ _ _ _ _ _ hb12.symm hsep.symm (lR1 _ hb1); clear h3))
        go_roundg (todo t1 st1 + todo t' st')
        case measure => have := hk'.out.2; omega
        case rel =>
          obtain ⟨A', h5⟩ := hk'.out.1
          exact ⟨D', T', t1, t', st1, st', c, r', r1, r2', v1, v', q1, q', rfl, hG', h4, hR', hsep'.symm, ⟨A, A', h5.symm⟩, rfl, hb3⟩
end Go.Proofs.Ytlaflhnnddfkkaa.trp
