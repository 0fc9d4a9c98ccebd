/- Package measured: pushRight, pushAllLeft, pushAllRight. -/
import Derived.Test.YtfbeiimmcemniaaPriPush
namespace Go.Proofs.Ytfbeiimmcemniaa.pri
open Go Go.RowKit

set_option maxRecDepth 100000 in
set_option maxHeartbeats 8000000 in
attribute [-go_sem] sliced in
theorem pushRight_short {Q : Nat → Prop} (k g0 : Nat) (px : Option Addr) (x : Nd) (w : World) (X Y L : List (Int × Int)) (al ar q : Option Addr) (cl cr : Nat) (l r : List Nd) (i : Lv) (hQ : ∀ b, w.heap.size ≤ b → Q b) (hk : hp.Blk w g0 74 (lcs Y (.slice al l.length cl) (.slice ar r.length cr) q))
    (hlw : Row Q w (.slice al l.length cl) l) (hr : Row Q w (.slice ar r.length cr) r) (hi : Lev Q w i q) (hY0 : flat l ++ i.nums ++ flat r = Y) (l1 : 1 ≤ l.length) (l4 : l.length ≤ 4) (lh : Hts k l) (hlt : r.length < 4) (rh : Hts k r) (oi : Lv.Ok (k + 1) i)
    (hx : Nod Q w x px) (hh : Nd.Ht k x) (hX0 : x.nums = X) (hL : Y ++ X = L) (hbd : L.length ≤ 4611686018427387904) :
    Calls Try.prog 23 #[.pointer (some ⟨g0, 0, none⟩), .pointer px] w fun e w' => (∃ u, e = .returned u ∧ IsL Q w' u k L) ∧ Below w.heap.size w w' := by
  obtain ⟨gx, xe, vx, rfl, hgx, hX, -⟩ := hx.blk
  rw [hX0] at hX
  have hlen := congrArg List.length hL
  rw [List.length_append] at hlen
  have J := fun W => mjoin_any Y X L W hL (by omega)
  have hM := methodJoin
  have hg := hk.lt
  have c5 := hk.cell 2
  have c6 := hk.cell 3
  have c7 := hk.cell 4
  simp only [List.getElem?_cons_zero, List.getElem?_cons_succ] at c5 c6 c7
  obtain ⟨n, hn⟩ : ∃ n, r.length = n := ⟨_, rfl⟩
  have hdone : ∀ W g z, w.heap.size ≤ g → Below w.heap.size w W → hp.Blk W g 74 (lcs L (.slice al l.length cl) z q) → Row Q W z (r ++ [x]) → IsL Q W (.pointer (some ⟨g, 0, none⟩)) k L :=
    fun W g z hg hb hB hz => IsL.deep (hQ _ hg) hB (hlw.on hb) hz (hi.on hb) ⟨l1, l4, lh⟩ ⟨by simp, by simp; omega, rh.append (Hts.one hh)⟩ oi (by rw [flat_append, flat_one, hX0, ← hL, ← hY0]; simp)
  have C := fun W (hW : Below w.heap.size w W) (g : Nat) (hg : w.heap.size ≤ g) (hgW : g < W.heap.size) (s z : Nat) (hs : hp.Blk W s 67 [.slice ar r.length cr, .slice (some ⟨z, 0, none⟩) 1 1]) (hz : hp.Blk W z 61 [.pointer (some ⟨gx, 0, none⟩)]) (hz1 : w.heap.size ≤ z) (hz2 : z ≠ g) =>
    concat2_any (Q := Not Q g) s _ _ r [x] W (fun b hb => ⟨hQ _ (by have := hW.size; omega), by omega⟩) hs ((hr.not hg).on hW) (Row.one ((hx.not hg).on hW) ⟨hQ _ hz1, hz2⟩ hz) (by simp; omega)
  rw [hn] at c6 C hlt
  have hn := Lib.hid hn
  replace hdone := Lib.hid hdone
  replace C := Lib.hid C
  clear hL hbd hr hx hY0 hlen hi hlw
  go_enter Try.func23, Try.ntmps23
  go_wp2_with fail
  (apply rel.region (C := fun w' => Below w.heap.size w w') (X := fun w w' => Below w.heap.size w w') (by kernel_rfl) (by kernel_rfl) (by kernel_rfl) ((Below.refl _ _).drew); (apply rel.walk_val; (focus (intro wq hq hf; go_wp2; refine ⟨hq, Below.refl _ _, ?_, rfl⟩; (show rel.slot _ _ = _; simp only [rel.slot_lit, List.getD_cons_succ, List.getD_cons_zero]; (first | done | exact rfl)))); (simp only [rel.put_lit, List.set_cons_succ, List.set_cons_zero])); (apply rel.walk_val; (focus (intro wq hq hf; go_wp2; refine ⟨hq, Below.refl _ _, ?_, rfl⟩; (show rel.slot _ _ = _; simp only [rel.slot_lit, List.getD_cons_succ, List.getD_cons_zero]; (first | done | exact rfl)))); (simp only [rel.put_lit, List.set_cons_succ, List.set_cons_zero])); (apply rel.walk_val; (focus (intro wq hq hf; go_wp2; refine ⟨hq, Below.refl _ _, ?_, rfl⟩; (show rel.slot _ _ = _; simp only [rel.slot_lit, List.getD_cons_succ, List.getD_cons_zero]; (first | done | exact rfl)))); (simp only [rel.put_lit, List.set_cons_succ, List.set_cons_zero])); ((apply rel.walk_val; (focus (intro wq hq hf; (obtain ⟨d0, d1⟩ := ((hk).below hq (hk).lt).cellsM); go_wp2; refine ⟨hq, Below.refl _ _, ?_, rfl⟩; (show rel.slot _ _ = _; simp only [rel.slot_lit, List.getD_cons_succ, List.getD_cons_zero]; (first | done | exact rfl)))); (simp only [rel.put_lit, List.set_cons_succ, List.set_cons_zero]))); (apply rel.walk_val; (focus (intro wq hq hf; go_wp2; refine ⟨hq, Below.refl _ _, ?_, rfl⟩; (show rel.slot _ _ = _; simp only [rel.slot_lit, List.getD_cons_succ, List.getD_cons_zero]; (first | done | exact rfl)))); (simp only [rel.put_lit, List.set_cons_succ, List.set_cons_zero])); (apply rel.walk_val; (focus (intro wq hq hf; go_wp2; refine ⟨hq, Below.refl _ _, ?_, rfl⟩; (show rel.slot _ _ = _; simp only [rel.slot_lit, List.getD_cons_succ, List.getD_cons_zero]; (first | done | exact rfl)))); (simp only [rel.put_lit, List.set_cons_succ, List.set_cons_zero])); (apply rel.walk_val; (focus (intro wq hq hf; go_wp2; refine ⟨hq, Below.refl _ _, ?_, rfl⟩; (show rel.slot _ _ = _; simp only [rel.slot_lit, List.getD_cons_succ, List.getD_cons_zero]; (first | done | exact rfl)))); (simp only [rel.put_lit, List.set_cons_succ, List.set_cons_zero])); (apply rel.walk_val; (focus (intro wq hq hf; go_wp2; refine ⟨hq, Below.refl _ _, ?_, rfl⟩; (show rel.slot _ _ = _; simp only [rel.slot_lit, List.getD_cons_succ, List.getD_cons_zero]; (first | done | exact rfl)))); (simp only [rel.put_lit, List.set_cons_succ, List.set_cons_zero])); ((apply rel.walk_val; (focus (intro wq hq hf; (obtain ⟨d0, d1⟩ := ((hX).below hq (hX).lt).cellsM); go_wp2; refine ⟨hq, Below.refl _ _, ?_, rfl⟩; (show rel.slot _ _ = _; simp only [rel.slot_lit, List.getD_cons_succ, List.getD_cons_zero]; (first | done | exact rfl)))); (simp only [rel.put_lit, List.set_cons_succ, List.set_cons_zero]))); (apply rel.walk_val; (focus (intro wq hq hf; go_wp2_with (go_at_call 67; refine (J _).mono ?_; rintro e w'' ⟨rfl, hb⟩); refine ⟨hq.trans (hb.mono hq.size), hb, ?_, rfl⟩; (show rel.slot _ _ = _; simp only [rel.slot_lit, List.getD_cons_succ, List.getD_cons_zero]; (first | done | exact rfl)))); (simp only [rel.put_lit, List.set_cons_succ, List.set_cons_zero])); (apply rel.walk_val; (focus (intro wq hq hf; go_wp2; refine ⟨hq, Below.refl _ _, ?_, rfl⟩; (show rel.slot _ _ = _; simp only [rel.slot_lit, List.getD_cons_succ, List.getD_cons_zero]; (first | done | exact rfl)))); (simp only [rel.put_lit, List.set_cons_succ, List.set_cons_zero])); (apply rel.walk_val; (focus (intro wq hq hf; go_wp2; refine ⟨hq, Below.refl _ _, ?_, rfl⟩; (show rel.slot _ _ = _; simp only [rel.slot_lit, List.getD_cons_succ, List.getD_cons_zero]; (first | done | exact rfl)))); (simp only [rel.put_lit, List.set_cons_succ, List.set_cons_zero])); (apply rel.walk_val; (focus (intro wq hq hf; go_wp2; refine ⟨hq, Below.refl _ _, ?_, rfl⟩; (show rel.slot _ _ = _; simp only [rel.slot_lit, List.getD_cons_succ, List.getD_cons_zero]; (first | done | exact rfl)))); (simp only [rel.put_lit, List.set_cons_succ, List.set_cons_zero])); ((apply rel.walk_val; (focus (intro wq hq hf; (have d0 := (hq.cell (p := ⟨g0, 2, none⟩) hg).trans c5); go_wp2; refine ⟨hq, Below.refl _ _, ?_, rfl⟩; (show rel.slot _ _ = _; simp only [rel.slot_lit, List.getD_cons_succ, List.getD_cons_zero]; (first | done | exact rfl)))); (simp only [rel.put_lit, List.set_cons_succ, List.set_cons_zero]))); (apply rel.walk_val; (focus (intro wq hq hf; go_wp2; refine ⟨hq, Below.refl _ _, ?_, rfl⟩; (show rel.slot _ _ = _; simp only [rel.slot_lit, List.getD_cons_succ, List.getD_cons_zero]; (first | done | exact rfl)))); (simp only [rel.put_lit, List.set_cons_succ, List.set_cons_zero])); (apply rel.walk_val; (focus (intro wq hq hf; go_wp2; refine ⟨hq, Below.refl _ _, ?_, rfl⟩; (show rel.slot _ _ = _; simp only [rel.slot_lit, List.getD_cons_succ, List.getD_cons_zero]; (first | done | exact rfl)))); (simp only [rel.put_lit, List.set_cons_succ, List.set_cons_zero])); (apply rel.walk_val; (focus (intro wq hq hf; go_wp2; refine ⟨hq, Below.refl _ _, ?_, rfl⟩; (show rel.slot _ _ = _; simp only [rel.slot_lit, List.getD_cons_succ, List.getD_cons_zero]; (first | done | exact rfl)))); (simp only [rel.put_lit, List.set_cons_succ, List.set_cons_zero])); ((apply rel.walk_val; (focus (intro wq hq hf; (have d0 := (hq.cell (p := ⟨g0, 4, none⟩) hg).trans c7); go_wp2; refine ⟨hq, Below.refl _ _, ?_, rfl⟩; (show rel.slot _ _ = _; simp only [rel.slot_lit, List.getD_cons_succ, List.getD_cons_zero]; (first | done | exact rfl)))); (simp only [rel.put_lit, List.set_cons_succ, List.set_cons_zero]))); (apply rel.walk_val; (focus (intro wq hq hf; go_wp2; refine ⟨hq, Below.refl _ _, ?_, rfl⟩; (show rel.slot _ _ = _; simp only [rel.slot_lit, List.getD_cons_succ, List.getD_cons_zero]; (first | done | exact rfl)))); (simp only [rel.put_lit, List.set_cons_succ, List.set_cons_zero])); (apply rel.walk_rel (fun u w' => ∃ γ, u = .pointer (some ⟨γ, 0, none⟩) ∧ w.heap.size ≤ γ ∧ hp.Blk w' γ 74 (lcs L (.slice al l.length cl) (.slice none 0 0) q)) ⟨_, rfl⟩ (fun u w1 w2 h1 h2 => by obtain ⟨γ, he, hl, hk⟩ := h2; exact ⟨γ, he, hl, hk.on h1⟩); (focus (intro wq hq hf; go_wp2; refine ⟨hq.alloc hq.size _, (Below.refl _ _).alloc (Nat.le_refl _) _, ?_, rfl⟩; (show ∃ γ, rel.slot _ _ = _ ∧ _; simp only [rel.slot_lit, List.getD_cons_succ, List.getD_cons_zero]; exact ⟨_, rfl, hq.size, hp.Blk.new _ _ _⟩))); (intro u wu _ hu; obtain ⟨p1, rfl, -⟩ := hu; (simp only [rel.put_lit, List.set_cons_succ, List.set_cons_zero]))); (apply rel.walk_rel (fun u w' => ∃ γ, u = .pointer (some ⟨γ, 0, none⟩) ∧ w.heap.size ≤ γ ∧ hp.Blk w' γ 74 (lcs L (.slice al l.length cl) (.slice none 0 0) q)) ⟨_, rfl⟩ (fun u w1 w2 h1 h2 => by obtain ⟨γ, he, hl, hk⟩ := h2; exact ⟨γ, he, hl, hk.on h1⟩); (focus (intro wq hq hf; have h0 := hf.get 0 rfl rfl; go_wp2; refine ⟨hq, Below.refl _ _, ?_, rfl⟩; (show ∃ γ, rel.slot _ _ = _ ∧ _; simp only [rel.slot_lit, List.getD_cons_succ, List.getD_cons_zero]; exact h0))); (intro u wu _ hu; obtain ⟨p2, rfl, -⟩ := hu; (simp only [rel.put_lit, List.set_cons_succ, List.set_cons_zero]))); (refine rel.walk_nil ?_; intro w9 K9 hF; have hu9 := hF _ (List.mem_cons_self ..); clear hF))
  obtain ⟨g, e, hgw, hB⟩ := hu9
  cases e
  have hs9 := K9.size
  have hne : w9.heap.size ≠ p2 := Nat.ne_of_gt hB.lt
  have hBl := hB.lt
  have hZ := hp.Blk.new w9 [.pointer (some ⟨gx, 0, none⟩)] 61
  have e6 := (K9.cell (p := ⟨g0, 3, none⟩) hg).trans c6
  have hg9 : g0 < w9.heap.size := by have := K9.size; omega
  have hS := hp.Blk.newAt (w := w9.alloc (.cells #[.pointer (some ⟨gx, 0, none⟩)] 61)) (cs := [.slice ar n cr, .slice (some ⟨w9.heap.size, 0, none⟩) 1 1]) (t := 67) (g := w9.heap.size + 1) (by simp)
  have hbA : Below w.heap.size w ((w9.alloc (.cells #[.pointer (some ⟨gx, 0, none⟩)] 61)).alloc (.cells #[.slice ar n cr, .slice (some ⟨w9.heap.size, 0, none⟩) 1 1] 67)) := by ((repeat' (first | with_reducible exact Below.refl _ _ | with_reducible apply Below.setCell | with_reducible apply below_drewN | with_reducible apply Below.drew | with_reducible apply Below.alloc | with_reducible refine Below.trans ?_ (Below.mono (by assumption) ?_))) <;> (first | (simp; done) | (simp; omega) | omega))
  have hC := C.out _ hbA p2 hgw (by simp; omega) _ _ hS (hZ.alloc _) hs9 hne
  have hB2 := (hB.alloc (.cells #[.pointer (some ⟨gx, 0, none⟩)] 61)).alloc (.cells #[.slice ar n cr, .slice (some ⟨w9.heap.size, 0, none⟩) 1 1] 67)
  clear hS hZ C
  replace hbA := Lib.hid hbA
  go_wp2_with (go_at_call 33; (with_reducible refine hC.mono ?_); clear hC; rintro e w1 ⟨⟨y, rfl, hy⟩, hb1⟩; (obtain ⟨ay, ny, cy, rfl⟩ := hy.val); have hB3 := hB2.on hb1; have d6 := hB3.cell 3; have df := hB3.free; simp only [List.getElem?_cons_zero, List.getElem?_cons_succ] at d6)
  go_ret
  have hbE := (hbA.out.trans (hb1.mono hbA.out.size)).setCell (p := ⟨p2, 3, none⟩) hgw (.slice ay ny cy)
  exact ⟨⟨_, rfl, hdone.out _ p2 _ hgw hbE (hB3.set 3 _) ((hy.set (a := ⟨p2, 3, none⟩) (fun h => h.2 rfl) _).imp fun _ h => h.1)⟩, hbE⟩

set_option maxRecDepth 100000 in
set_option maxHeartbeats 8000000 in
attribute [-go_sem] sliced in
theorem pushRight_any : ∀ (t : Lv) {Q : Nat → Prop} (k : Nat) (p px : Option Addr) (x : Nd) (w : World) (L : List (Int × Int)), (∀ b, w.heap.size ≤ b → Q b) → Lev Q w t p → Lv.Ok k t → Nod Q w x px → Nd.Ht k x → t.nums ++ x.nums = L → L.length ≤ 4611686018427387904 →
    Calls Try.prog 23 #[.pointer p, .pointer px] w fun e w' => (∃ u, e = .returned u ∧ IsL Q w' u k L) ∧ Below w.heap.size w w' := by
  intro t
  induction t with
  | nil =>
    intro Q k p px x w L hQ hl ho hx hh hL hbd
    obtain rfl : p = none := hl
    obtain rfl : x.nums = L := by simpa [Lv.nums] using hL
    have H := single_any x px w hQ hx
    clear hx hbd hL
    go_enter Try.func23, Try.ntmps23
    go_wp2_with (go_at_call 32; (with_reducible refine H.mono ?_); clear H; rintro e w1 ⟨⟨q, rfl, hq⟩, hb1⟩)
    go_ret
    exact ⟨⟨_, rfl, _, _, rfl, hq, hh, rfl⟩, hb1⟩
  | one y =>
    intro Q k p px x w L hQ hl ho hx hh hL hbd
    obtain ⟨g0, v, rfl, -, hk, hr⟩ := hl
    obtain ⟨a, c, rfl, -⟩ := hr.cells
    exact pushRight_short k g0 px x w _ y.nums L a none none c 0 [y] [] .nil hQ hk hr (Row.nil _ _) rfl (by simp [flat, Lv.nums]) (by simp) (by simp) (Hts.one ho) (by simp) (Hts.nil _) trivial hx hh rfl hL hbd
  | deep l i r ih =>
    intro Q k p px x w L hQ hl ho hx hh hL hbd
    obtain ⟨⟨l1, l4, lh⟩, ⟨r1, r4, rh⟩, oi⟩ := ho
    obtain ⟨g0, u, v, q, rfl, -, hk, hlw, hr, hi⟩ := hl
    obtain ⟨al, cl, rfl, -⟩ := hlw.cells
    obtain ⟨ar, cr, rfl, -, hcr, hcc⟩ := hr.cells
    by_cases hlt : r.length < 4
    · exact pushRight_short k g0 px x w _ _ L al ar q cl cr l r i hQ hk hlw hr hi rfl l1 l4 lh hlt rh oi hx hh rfl hL hbd
    obtain ⟨gx, xe, vx, rfl, hgx, hX, -⟩ := hx.blk
    obtain ⟨X, hX0⟩ : ∃ X, x.nums = X := ⟨_, rfl⟩
    obtain ⟨A, hA0⟩ : ∃ X, flat l = X := ⟨_, rfl⟩
    obtain ⟨I, hI0⟩ : ∃ X, i.nums = X := ⟨_, rfl⟩
    obtain ⟨R, hR0⟩ : ∃ X, flat r = X := ⟨_, rfl⟩
    obtain ⟨Y, hY0⟩ : ∃ Y, A ++ I ++ R = Y := ⟨_, rfl⟩
    have hL' : Y ++ X = L := by rw [← hL, ← hX0, ← hY0, ← hA0, ← hI0, ← hR0]; rfl
    rw [hX0] at hX
    rw [hA0, hI0, hR0, hY0] at hk
    have hlen := congrArg List.length hL'
    have hlen2 := congrArg List.length hY0
    rw [List.length_append] at hlen
    rw [List.length_append, List.length_append] at hlen2
    have J := fun W => mjoin_any Y X L W hL' (by omega)
    have hM := methodJoin
    have hg := hk.lt
    have c5 := hk.cell 2
    have c6 := hk.cell 3
    have c7 := hk.cell 4
    simp only [List.getElem?_cons_zero, List.getElem?_cons_succ] at c5 c6 c7
    have l4' : r.length = 4 := by omega
    obtain ⟨r', y0, rfl⟩ : ∃ r' y, r = r' ++ [y] := by
      rcases List.eq_nil_or_concat r with e | ⟨r', y0, e⟩
      · subst e; simp at r1
      · exact ⟨r', y0, by rw [e, List.concat_eq_append]⟩
    obtain ⟨bl, ol, rfl, -, hbl, hcell⟩ := hcc (by omega)
    have l3 : r'.length = 3 := by simpa using l4'
    obtain ⟨py, kp, hy0⟩ := hcell 3 y0 (by rw [← l3]; simp)
    have hto := hr.to (j := 3) (by omega)
    rw [show (r' ++ [y0]).take 3 = r' by rw [← l3]; simp] at hto
    obtain ⟨A', hA'⟩ : ∃ A', flat r' = A' := ⟨_, rfl⟩
    obtain ⟨AI, hAI⟩ : ∃ A, I ++ A' = A := ⟨_, rfl⟩
    have hA2 : A' ++ y0.nums = R := by rw [← hR0, flat_append, flat_one, hA']
    have hlen3 := congrArg List.length hA2
    have hlen4 := congrArg List.length hAI
    rw [List.length_append] at hlen3 hlen4
    rw [l4'] at c6 hcr
    have rh' : Hts k r' := fun z hz => rh z (List.mem_append_left _ hz)
    have O := fun W (hW : Below w.heap.size w W) (g : Nat) (hg : w.heap.size ≤ g) (hgW : g < W.heap.size) =>
      over_any (Q := Not Q g) _ r' k W (fun b hb => ⟨hQ _ (by have := hW.size; omega), by omega⟩) ((hto.not hg).on hW) rh' (by omega) (by omega) A' hA' (by omega)
    have P : ∀ W (hW : Below w.heap.size w W) (g : Nat) (hg : w.heap.size ≤ g) (hgW : g < W.heap.size) (pu : Option Addr), IsN (Not Q g) W (.pointer pu) (k + 1) A' →
        Calls Try.prog 23 #[.pointer q, .pointer pu] W fun e w' => (∃ u, e = .returned u ∧ IsL (Not Q g) w' u (k + 1) AI) ∧ Below W.heap.size W w' := by
      intro W hW g hg hgW pu hu
      obtain ⟨pn, n, e, hn, hh, hnn⟩ := hu
      cases e
      exact ih (k + 1) q pu n W AI (fun b hb => ⟨hQ _ (by have := hW.size; omega), by omega⟩) ((hi.not hg).on hW) oi hn hh (by rw [hnn, hI0, hAI]) (by omega)
    have hdone : ∀ W g z u, w.heap.size ≤ g → Below w.heap.size w W → hp.Blk W g 74 (lcs L (.slice al l.length cl) (.slice (some ⟨z, 0, none⟩) 2 2) u) → w.heap.size ≤ z → hp.Blk W z 61 [.pointer py, .pointer (some ⟨gx, 0, none⟩)] → IsL Q W (.pointer u) (k + 1) AI → IsL Q W (.pointer (some ⟨g, 0, none⟩)) k L := by
      intro W g z u hg hb hB hz hZ hu
      obtain ⟨pu, t, e, ht, htk, htn⟩ := hu
      cases e
      exact IsL.deep (hQ _ hg) hB (hlw.on hb) (Row.two (hy0.on hb) (hx.on hb) (hQ _ hz) hZ) ht ⟨l1, l4, lh⟩ ⟨by simp, by simp, Hts.cons (rh y0 (by simp)) (Hts.one hh)⟩ htk (by rw [flat_cons, flat_one, hX0, htn, hA0, ← hL', ← hY0, ← hA2, ← hAI]; simp)
    replace hdone := Lib.hid hdone
    replace O := Lib.hid O
    replace P := Lib.hid P
    replace l4' := Lib.hid l4'
    clear hL hL' hbd hr hx hA0 hI0 hR0 hY0 hlen hlen2 hlen3 hlen4 ih hcc hi hlw hA' hAI hA2 hcell hy0 hto l3 hlt r1 r4 rh rh'
    go_enter Try.func23, Try.ntmps23
    go_wp2_with fail
    (apply rel.region (C := fun w' => Below w.heap.size w w') (X := fun w w' => Below w.heap.size w w') (by kernel_rfl) (by kernel_rfl) (by kernel_rfl) ((Below.refl _ _).drew); (apply rel.walk_val; (focus (intro wq hq hf; go_wp2; refine ⟨hq, Below.refl _ _, ?_, rfl⟩; (show rel.slot _ _ = _; simp only [rel.slot_lit, List.getD_cons_succ, List.getD_cons_zero]; (first | done | exact rfl)))); (simp only [rel.put_lit, List.set_cons_succ, List.set_cons_zero])); (apply rel.walk_val; (focus (intro wq hq hf; go_wp2; refine ⟨hq, Below.refl _ _, ?_, rfl⟩; (show rel.slot _ _ = _; simp only [rel.slot_lit, List.getD_cons_succ, List.getD_cons_zero]; (first | done | exact rfl)))); (simp only [rel.put_lit, List.set_cons_succ, List.set_cons_zero])); (apply rel.walk_val; (focus (intro wq hq hf; go_wp2; refine ⟨hq, Below.refl _ _, ?_, rfl⟩; (show rel.slot _ _ = _; simp only [rel.slot_lit, List.getD_cons_succ, List.getD_cons_zero]; (first | done | exact rfl)))); (simp only [rel.put_lit, List.set_cons_succ, List.set_cons_zero])); ((apply rel.walk_val; (focus (intro wq hq hf; (obtain ⟨d0, d1⟩ := ((hk).below hq (hk).lt).cellsM); go_wp2; refine ⟨hq, Below.refl _ _, ?_, rfl⟩; (show rel.slot _ _ = _; simp only [rel.slot_lit, List.getD_cons_succ, List.getD_cons_zero]; (first | done | exact rfl)))); (simp only [rel.put_lit, List.set_cons_succ, List.set_cons_zero]))); (apply rel.walk_val; (focus (intro wq hq hf; go_wp2; refine ⟨hq, Below.refl _ _, ?_, rfl⟩; (show rel.slot _ _ = _; simp only [rel.slot_lit, List.getD_cons_succ, List.getD_cons_zero]; (first | done | exact rfl)))); (simp only [rel.put_lit, List.set_cons_succ, List.set_cons_zero])); (apply rel.walk_val; (focus (intro wq hq hf; go_wp2; refine ⟨hq, Below.refl _ _, ?_, rfl⟩; (show rel.slot _ _ = _; simp only [rel.slot_lit, List.getD_cons_succ, List.getD_cons_zero]; (first | done | exact rfl)))); (simp only [rel.put_lit, List.set_cons_succ, List.set_cons_zero])); (apply rel.walk_val; (focus (intro wq hq hf; go_wp2; refine ⟨hq, Below.refl _ _, ?_, rfl⟩; (show rel.slot _ _ = _; simp only [rel.slot_lit, List.getD_cons_succ, List.getD_cons_zero]; (first | done | exact rfl)))); (simp only [rel.put_lit, List.set_cons_succ, List.set_cons_zero])); (apply rel.walk_val; (focus (intro wq hq hf; go_wp2; refine ⟨hq, Below.refl _ _, ?_, rfl⟩; (show rel.slot _ _ = _; simp only [rel.slot_lit, List.getD_cons_succ, List.getD_cons_zero]; (first | done | exact rfl)))); (simp only [rel.put_lit, List.set_cons_succ, List.set_cons_zero])); ((apply rel.walk_val; (focus (intro wq hq hf; (obtain ⟨d0, d1⟩ := ((hX).below hq (hX).lt).cellsM); go_wp2; refine ⟨hq, Below.refl _ _, ?_, rfl⟩; (show rel.slot _ _ = _; simp only [rel.slot_lit, List.getD_cons_succ, List.getD_cons_zero]; (first | done | exact rfl)))); (simp only [rel.put_lit, List.set_cons_succ, List.set_cons_zero]))); (apply rel.walk_val; (focus (intro wq hq hf; go_wp2_with (go_at_call 67; refine (J _).mono ?_; rintro e w'' ⟨rfl, hb⟩); refine ⟨hq.trans (hb.mono hq.size), hb, ?_, rfl⟩; (show rel.slot _ _ = _; simp only [rel.slot_lit, List.getD_cons_succ, List.getD_cons_zero]; (first | done | exact rfl)))); (simp only [rel.put_lit, List.set_cons_succ, List.set_cons_zero])); (apply rel.walk_val; (focus (intro wq hq hf; go_wp2; refine ⟨hq, Below.refl _ _, ?_, rfl⟩; (show rel.slot _ _ = _; simp only [rel.slot_lit, List.getD_cons_succ, List.getD_cons_zero]; (first | done | exact rfl)))); (simp only [rel.put_lit, List.set_cons_succ, List.set_cons_zero])); (apply rel.walk_val; (focus (intro wq hq hf; go_wp2; refine ⟨hq, Below.refl _ _, ?_, rfl⟩; (show rel.slot _ _ = _; simp only [rel.slot_lit, List.getD_cons_succ, List.getD_cons_zero]; (first | done | exact rfl)))); (simp only [rel.put_lit, List.set_cons_succ, List.set_cons_zero])); (apply rel.walk_val; (focus (intro wq hq hf; go_wp2; refine ⟨hq, Below.refl _ _, ?_, rfl⟩; (show rel.slot _ _ = _; simp only [rel.slot_lit, List.getD_cons_succ, List.getD_cons_zero]; (first | done | exact rfl)))); (simp only [rel.put_lit, List.set_cons_succ, List.set_cons_zero])); ((apply rel.walk_val; (focus (intro wq hq hf; (have d0 := (hq.cell (p := ⟨g0, 2, none⟩) hg).trans c5); go_wp2; refine ⟨hq, Below.refl _ _, ?_, rfl⟩; (show rel.slot _ _ = _; simp only [rel.slot_lit, List.getD_cons_succ, List.getD_cons_zero]; (first | done | exact rfl)))); (simp only [rel.put_lit, List.set_cons_succ, List.set_cons_zero]))); (apply rel.walk_val; (focus (intro wq hq hf; go_wp2; refine ⟨hq, Below.refl _ _, ?_, rfl⟩; (show rel.slot _ _ = _; simp only [rel.slot_lit, List.getD_cons_succ, List.getD_cons_zero]; (first | done | exact rfl)))); (simp only [rel.put_lit, List.set_cons_succ, List.set_cons_zero])); (apply rel.walk_val; (focus (intro wq hq hf; go_wp2; refine ⟨hq, Below.refl _ _, ?_, rfl⟩; (show rel.slot _ _ = _; simp only [rel.slot_lit, List.getD_cons_succ, List.getD_cons_zero]; (first | done | exact rfl)))); (simp only [rel.put_lit, List.set_cons_succ, List.set_cons_zero])); (apply rel.walk_val; (focus (intro wq hq hf; go_wp2; refine ⟨hq, Below.refl _ _, ?_, rfl⟩; (show rel.slot _ _ = _; simp only [rel.slot_lit, List.getD_cons_succ, List.getD_cons_zero]; (first | done | exact rfl)))); (simp only [rel.put_lit, List.set_cons_succ, List.set_cons_zero])); ((apply rel.walk_val; (focus (intro wq hq hf; (have d0 := (hq.cell (p := ⟨g0, 4, none⟩) hg).trans c7); go_wp2; refine ⟨hq, Below.refl _ _, ?_, rfl⟩; (show rel.slot _ _ = _; simp only [rel.slot_lit, List.getD_cons_succ, List.getD_cons_zero]; (first | done | exact rfl)))); (simp only [rel.put_lit, List.set_cons_succ, List.set_cons_zero]))); (apply rel.walk_val; (focus (intro wq hq hf; go_wp2; refine ⟨hq, Below.refl _ _, ?_, rfl⟩; (show rel.slot _ _ = _; simp only [rel.slot_lit, List.getD_cons_succ, List.getD_cons_zero]; (first | done | exact rfl)))); (simp only [rel.put_lit, List.set_cons_succ, List.set_cons_zero])); (apply rel.walk_rel (fun u w' => ∃ γ, u = .pointer (some ⟨γ, 0, none⟩) ∧ w.heap.size ≤ γ ∧ hp.Blk w' γ 74 (lcs L (.slice al l.length cl) (.slice none 0 0) q)) ⟨_, rfl⟩ (fun u w1 w2 h1 h2 => by obtain ⟨γ, he, hl, hk⟩ := h2; exact ⟨γ, he, hl, hk.on h1⟩); (focus (intro wq hq hf; go_wp2; refine ⟨hq.alloc hq.size _, (Below.refl _ _).alloc (Nat.le_refl _) _, ?_, rfl⟩; (show ∃ γ, rel.slot _ _ = _ ∧ _; simp only [rel.slot_lit, List.getD_cons_succ, List.getD_cons_zero]; exact ⟨_, rfl, hq.size, hp.Blk.new _ _ _⟩))); (intro u wu _ hu; obtain ⟨p1, rfl, -⟩ := hu; (simp only [rel.put_lit, List.set_cons_succ, List.set_cons_zero]))); (apply rel.walk_rel (fun u w' => ∃ γ, u = .pointer (some ⟨γ, 0, none⟩) ∧ w.heap.size ≤ γ ∧ hp.Blk w' γ 74 (lcs L (.slice al l.length cl) (.slice none 0 0) q)) ⟨_, rfl⟩ (fun u w1 w2 h1 h2 => by obtain ⟨γ, he, hl, hk⟩ := h2; exact ⟨γ, he, hl, hk.on h1⟩); (focus (intro wq hq hf; have h0 := hf.get 0 rfl rfl; go_wp2; refine ⟨hq, Below.refl _ _, ?_, rfl⟩; (show ∃ γ, rel.slot _ _ = _ ∧ _; simp only [rel.slot_lit, List.getD_cons_succ, List.getD_cons_zero]; exact h0))); (intro u wu _ hu; obtain ⟨p2, rfl, -⟩ := hu; (simp only [rel.put_lit, List.set_cons_succ, List.set_cons_zero]))); (refine rel.walk_nil ?_; intro w9 K9 hF; have hu9 := hF _ (List.mem_cons_self ..); clear hF))
    obtain ⟨g, e, hgw, hB⟩ := hu9
    cases e
    have hs9 := K9.size
    have e6 := (K9.cell (p := ⟨g0, 3, none⟩) hg).trans c6
    have hg9 : g0 < w9.heap.size := by omega
    have a7 := (K9.cell (p := ⟨g0, 4, none⟩) hg).trans c7
    have O' := fun V (h : Below w9.heap.size w9 V) => O.out V (K9.trans (h.mono hs9)) p2 hgw (by have := hB.lt; have := h.size; omega)
    have P' := fun V (h : Below w9.heap.size w9 V) => P.out V (K9.trans (h.mono hs9)) p2 hgw (by have := hB.lt; have := h.size; omega)
    clear O P
    go_wp2_with fail
    apply rel.region_tail (C := fun w' => Below w9.heap.size w9 w') (X := fun w w' => Below w.heap.size w w') 14 (by kernel_rfl) (by kernel_rfl) (by kernel_rfl) (by kernel_rfl) ((Below.refl _ _).drew)
    (apply rel.walk_val; (focus (intro wq hq hf; go_wp2; refine ⟨hq, Below.refl _ _, ?_, rfl⟩; (show rel.slot _ _ = _; simp only [rel.slot_lit, List.getD_cons_succ, List.getD_cons_zero]; (first | done | exact rfl)))); (simp only [rel.put_lit, List.set_cons_succ, List.set_cons_zero]))
    (apply rel.walk_val; (focus (intro wq hq hf; go_wp2; refine ⟨hq, Below.refl _ _, ?_, rfl⟩; (show rel.slot _ _ = _; simp only [rel.slot_lit, List.getD_cons_succ, List.getD_cons_zero]; (first | done | exact rfl)))); (simp only [rel.put_lit, List.set_cons_succ, List.set_cons_zero]))
    (apply rel.walk_val; (focus (intro wq hq hf; go_wp2; refine ⟨hq, Below.refl _ _, ?_, rfl⟩; (show rel.slot _ _ = _; simp only [rel.slot_lit, List.getD_cons_succ, List.getD_cons_zero]; (first | done | exact rfl)))); (simp only [rel.put_lit, List.set_cons_succ, List.set_cons_zero]))
    (apply rel.walk_val; (focus (intro wq hq hf; go_wp2; refine ⟨hq, Below.refl _ _, ?_, rfl⟩; (show rel.slot _ _ = _; simp only [rel.slot_lit, List.getD_cons_succ, List.getD_cons_zero]; (first | done | exact rfl)))); (simp only [rel.put_lit, List.set_cons_succ, List.set_cons_zero]))
    ((apply rel.walk_val; (focus (intro wq hq hf; (have d0 := (hq.cell (p := ⟨g0, 4, none⟩) hg9).trans a7); go_wp2; refine ⟨hq, Below.refl _ _, ?_, rfl⟩; (show rel.slot _ _ = _; simp only [rel.slot_lit, List.getD_cons_succ, List.getD_cons_zero]; (first | done | exact rfl)))); (simp only [rel.put_lit, List.set_cons_succ, List.set_cons_zero])))
    (apply rel.walk_val; (focus (intro wq hq hf; go_wp2; refine ⟨hq, Below.refl _ _, ?_, rfl⟩; (show rel.slot _ _ = _; simp only [rel.slot_lit, List.getD_cons_succ, List.getD_cons_zero]; (first | done | exact rfl)))); (simp only [rel.put_lit, List.set_cons_succ, List.set_cons_zero]))
    (apply rel.walk_val; (focus (intro wq hq hf; go_wp2; refine ⟨hq, Below.refl _ _, ?_, rfl⟩; (show rel.slot _ _ = _; simp only [rel.slot_lit, List.getD_cons_succ, List.getD_cons_zero]; (first | done | exact rfl)))); (simp only [rel.put_lit, List.set_cons_succ, List.set_cons_zero]))
    (apply rel.walk_val; (focus (intro wq hq hf; go_wp2; refine ⟨hq, Below.refl _ _, ?_, rfl⟩; (show rel.slot _ _ = _; simp only [rel.slot_lit, List.getD_cons_succ, List.getD_cons_zero]; (first | done | exact rfl)))); (simp only [rel.put_lit, List.set_cons_succ, List.set_cons_zero]))
    ((apply rel.walk_val; (focus (intro wq hq hf; (have d0 := (hq.cell (p := ⟨g0, 3, none⟩) hg9).trans e6); go_wp2; refine ⟨hq, Below.refl _ _, ?_, rfl⟩; (show rel.slot _ _ = _; simp only [rel.slot_lit, List.getD_cons_succ, List.getD_cons_zero]; (first | done | exact rfl)))); (simp only [rel.put_lit, List.set_cons_succ, List.set_cons_zero])))
    (apply rel.walk_val; (focus (intro wq hq hf; go_wp2; refine ⟨hq, Below.refl _ _, ?_, rfl⟩; (show rel.slot _ _ = _; simp only [rel.slot_lit, List.getD_cons_succ, List.getD_cons_zero]; (first | done | exact rfl)))); (simp only [rel.put_lit, List.set_cons_succ, List.set_cons_zero]))
    (apply rel.walk_rel (fun u w' => pri.IsN (Not Q p2) w' u (k + 1) (A')) ⟨_, rfl⟩ (fun u w1 w2 h1 h2 => h2.on h1); (focus (intro wq hq hf; go_wp2_with (go_at_call 34; with_reducible refine (O' _ hq).mono ?_; rintro e w'' ⟨⟨u, rfl, hu⟩, hb⟩); refine ⟨hq.trans (hb.mono hq.size), hb, ?_, rfl⟩; (show pri.IsN _ _ (rel.slot _ _) _ _; simp only [rel.slot_lit, List.getD_cons_succ, List.getD_cons_zero]; exact hu))); (intro u wu _ hu; obtain ⟨pn, t_pn, rfl, -⟩ := hu; (simp only [rel.put_lit, List.set_cons_succ, List.set_cons_zero])))
    (apply rel.walk_rel (fun u w' => pri.IsL (Not Q p2) w' u (k + 1) (AI)) ⟨_, rfl⟩ (fun u w1 w2 h1 h2 => h2.on h1); (focus (intro wq hq hf; go_wp2_with (go_at_call 23; with_reducible refine (P' _ hq _ (hf.get 0 rfl rfl)).mono ?_; rintro e w'' ⟨⟨u, rfl, hu⟩, hb⟩); refine ⟨hq.trans (hb.mono hq.size), hb, ?_, rfl⟩; (show pri.IsL _ _ (rel.slot _ _) _ _; simp only [rel.slot_lit, List.getD_cons_succ, List.getD_cons_zero]; exact hu))); (intro u wu _ hu; obtain ⟨pu, t_pu, rfl, -⟩ := hu; (simp only [rel.put_lit, List.set_cons_succ, List.set_cons_zero])))
    (apply rel.walk_val; (focus (intro wq hq hf; go_wp2; refine ⟨hq, Below.refl _ _, ?_, rfl⟩; (show rel.slot _ _ = _; simp only [rel.slot_lit, List.getD_cons_succ, List.getD_cons_zero]; (first | done | exact rfl)))); (simp only [rel.put_lit, List.set_cons_succ, List.set_cons_zero]))
    (apply rel.walk_val; (focus (intro wq hq hf; go_wp2; refine ⟨hq, Below.refl _ _, ?_, rfl⟩; (show rel.slot _ _ = _; simp only [rel.slot_lit, List.getD_cons_succ, List.getD_cons_zero]; (first | done | exact rfl)))); (simp only [rel.put_lit, List.set_cons_succ, List.set_cons_zero]))
    (refine rel.walk_nil ?_; intro w10 K10 hF; have hu10 := hF _ (List.mem_cons_self ..); clear hF)
    have hB3 := hB.on K10
    have d7 := hB3.cell 4
    have df := hB3.free
    simp only [List.getElem?_cons_zero, List.getElem?_cons_succ] at d7
    have hp2 := hB.lt
    have hb1 : Below w.heap.size w w10 := K9.trans (K10.mono hs9)
    obtain ⟨W2, hW2⟩ : ∃ W2, w10.setCell ⟨p2, 4, none⟩ (.pointer pu) = W2 := ⟨_, rfl⟩
    have hb2 : Below w.heap.size w W2 := by rw [← hW2]; exact hb1.setCell (p := ⟨p2, 4, none⟩) hgw _
    have hs2 := hb2.size
    have b6 := (hb2.cell (p := ⟨g0, 3, none⟩) hg).trans c6
    have bp := (hb2.cell (p := ⟨bl, ol + 3, none⟩) hbl).trans kp
    have hg2 : g0 < W2.heap.size := by omega
    have hbl2 : bl < W2.heap.size := by omega
    have hu2 : IsL (Not Q p2) W2 (.pointer pu) (k + 1) AI := by rw [← hW2]; exact hu10.set (a := ⟨p2, 4, none⟩) (fun h => h.2 rfl) _
    have hB4 : hp.Blk W2 p2 74 (lcs L (.slice al l.length cl) (.slice none 0 0) pu) := by rw [← hW2]; exact hB3.set 4 _
    have hB5 := hB4.alloc (.cells #[.pointer py, .pointer (some ⟨gx, 0, none⟩)] 61)
    have d6 := hB5.cell 3
    have df6 := hB5.free
    simp only [List.getElem?_cons_zero, List.getElem?_cons_succ] at d6
    have hbE := (hb2.alloc hb2.size (.cells #[.pointer py, .pointer (some ⟨gx, 0, none⟩)] 61)).setCell (p := ⟨p2, 3, none⟩) hgw (.slice (some ⟨W2.heap.size, 0, none⟩) 2 2)
    have hne : W2.heap.size ≠ p2 := Nat.ne_of_gt hB4.lt
    have hZ := (hp.Blk.new W2 [.pointer py, .pointer (some ⟨gx, 0, none⟩)] 61).other (a := ⟨p2, 3, none⟩) hne (.slice (some ⟨W2.heap.size, 0, none⟩) 2 2)
    have hE := hdone.out _ p2 _ _ hgw hbE (hB5.set 3 _) hs2 hZ (((hu2.on ((Below.refl _ _).alloc (Nat.le_refl _) _)).set (a := ⟨p2, 3, none⟩) (fun h => h.2 rfl) _).imp fun _ h => h.1)
    replace hbE := Lib.hid hbE
    replace hE := Lib.hid hE
    clear hZ hdone hu10 O' P' hB hB3 hB4 hB5 hu2
    simp only [List.drop_succ_cons, List.drop_zero]
    go_wp2_with fail
    go_ret
    exact ⟨⟨_, rfl, hE.out⟩, hbE.out⟩
end Go.Proofs.Ytfbeiimmcemniaa.pri
