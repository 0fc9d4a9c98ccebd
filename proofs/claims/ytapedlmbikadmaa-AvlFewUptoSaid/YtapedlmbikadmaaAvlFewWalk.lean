/- The walk of AvlFew. -/
import Derived.Test.YtapedlmbikadmaaAvlWalks
import Derived.Test.YtapedlmbikadmaaAvlShape
namespace Go.Proofs.Ytapedlmbikadmaa.avlFew
open Go Go.RowKit Go.Proofs.Ytapedlmbikadmaa.avl Go.Proofs.Ytapedlmbikadmaa.sch
set_option linter.unusedVariables false

/-- the least number of numbers of a tree of a height -/
def F : Nat → Nat
  | 0 => 0
  | 1 => 1
  | n + 2 => F (n + 1) + F n + 1
theorem F_step : ∀ n, F n ≤ F (n + 1)
  | 0 => by simp [F]
  | n + 1 => by simp only [F]; omega
theorem F_le {m n : Nat} (h : m ≤ n) : F m ≤ F n := by
  induction n with
  | zero => obtain rfl : m = 0 := by omega
            exact Nat.le_refl _
  | succ n ih =>
    rcases Nat.lt_or_ge n m with h1 | h1
    · obtain rfl : m = n + 1 := by omega
      exact Nat.le_refl _
    · exact Nat.le_trans (ih h1) (F_step n)
theorem many : ∀ {t : Tr}, Avl t → F (hgt t) ≤ (keys t).length
  | .nil, _ => by simp [hgt, F]
  | .node x m l r, ⟨_, h1, h2, hl, hr⟩ => by
    have m1 := many hl
    have m2 := many hr
    simp only [hgt, keys, List.length_append, List.length_cons]
    obtain ⟨g, hg⟩ : ∃ g, max (hgt l) (hgt r) = g := ⟨_, rfl⟩
    rw [hg]
    rcases g with _ | g
    · simp [F]; omega
    · simp only [F]
      by_cases e : hgt l = g + 1
      · rw [e] at m1
        have := F_le (show g ≤ hgt r by omega)
        omega
      · have e2 : hgt r = g + 1 := by omega
        rw [e2] at m2
        have := F_le (show g ≤ hgt l by omega)
        omega

set_option maxRecDepth 100000 in
set_option maxHeartbeats 16000000 in
theorem walk (v0 : Value) (l0 : List Int) (v1 : Value) (l1 : List Int) (w : World) (i0 : hp.IsInts w w.heap.size v0 l0) (i1 : hp.IsInts w w.heap.size v1 l1) (bd : l0.length + l1.length ≤ 1048576) :
    Calls Try.prog 6 #[v0, v1] w fun e w' => e = .returned (.bool true) ∧ Below w.heap.size w w' := by
  have hul := uniq_le l0
  obtain ⟨K, hK⟩ : ∃ K, uniq l0 = K := ⟨_, rfl⟩
  rw [hK] at hul
  have H1 := fun W (hW : Below w.heap.size w W) => of_as hK (i0.on hW) (by omega)
  have hlK : K.length ≤ 1048576 := by omega
  have i0' := i0
  obtain ⟨a0, c0, rfl, -⟩ := i0'
  have KK := Below.refl w.heap.size w
  clear hul hK i0
  have i1' := i1
  obtain ⟨a1, c1, rfl, hn1, hm1, hwf1, hc1⟩ := i1'
  have hl1 : l1.length ≤ 1048576 := by omega
  clear bd hn1 hm1 i1
  go_enter Try.func6, Try.ntmps6
  go_wp2_with (first
    | (go_at_call 8; with_reducible refine (avled_any _).mono ?_; rintro e wa ⟨rfl, hb⟩; replace KK := st KK hb; clear hb)
    | (go_at_call 21; with_reducible refine (H1 _ KK).mono ?_; clear H1; rintro e wb ⟨⟨q1, rfl, hX⟩, hb⟩; have hA := hp.Blk.new wb [.pointer q1, .int .i64 K.length] tyH; replace KK := st KK hb; have hgb := KK.size; replace KK := st KK ((Below.refl _ _).alloc (Nat.le_refl _) (.cells #[.pointer q1, .int .i64 K.length] tyH)); replace hX := hX.on ((Below.refl _ _).alloc (Nat.le_refl _) (.cells #[.pointer q1, .int .i64 K.length] tyH)); clear hb))
  obtain ⟨γ, hγ⟩ : ∃ γ, wb.heap.size = γ := ⟨_, rfl⟩
  rw [hγ] at hA hgb ⊢
  go_loopw [7] (fun i wr => ∃ (k : Nat) (K : List Int) (q : Option Addr), i = .int .i64 k ∧ k ≤ l1.length ∧ K.length ≤ 1048576 ∧ Below w.heap.size w wr ∧ hp.Blk wr γ tyH [.pointer q, .int .i64 K.length] ∧ IsSet wr wr.heap.size (rv q K.length) K) (fun i _ => l1.length - (intOf i).toNat)
  case atStart => exact ⟨0, K, q1, rfl, Nat.zero_le _, hlK, KK, hA, hX⟩
  case round =>
    clear KK hX hA hlK hγ
    obtain ⟨k, K, q, rfl, hk, hlK, hb, hA, hX⟩ := hrel
    by_cases hlt : k < l1.length
    · obtain ⟨b, off, rfl, hbb, hce⟩ := hc1 (by omega)
      have hcx := (hb.cell (p := ⟨b, off + k, none⟩) hbb).trans (hce k hlt)
      have hwx : (Lit.int .i64 (l1.getD k 0)).wf = true := hwf1 _ (by simp [hlt])
      have hbw : b < wr.heap.size := Nat.lt_of_lt_of_le hbb hb.size
      obtain ⟨x, hx⟩ : ∃ x, l1.getD k 0 = x := ⟨_, rfl⟩
      rw [hx] at hcx hwx
      have hdl := del_le x K
      obtain ⟨D, hD⟩ : ∃ D, del x K = D := ⟨_, rfl⟩
      rw [hD] at hdl
      have hdr := fun W (hW : Below wr.heap.size wr W) => drop_as hD (hX.on hW) hwx (by omega)
      clear hc1 hce hwf1 hx hwx hD
      go_wp2_with fail
      apply rel.region_tail (C := fun w' => Below wr.heap.size wr w') (X := fun w w' => Below w.heap.size w w') 6 (by kernel_rfl) (by kernel_rfl) (by kernel_rfl) (by kernel_rfl) ((Below.refl _ _).drew)
      ((apply rel.walk_val; (focus (intro wq hq hf; (obtain ⟨d0, d1⟩ := ((hA).below hq (hA).lt).cells2); go_wp2; refine ⟨hq, Below.refl _ _, ?_, rfl⟩; (show rel.slot _ _ = _; simp only [rel.slot_lit, List.getD_cons_succ, List.getD_cons_zero]; (first | done | exact rfl)))); (simp only [rel.put_lit, List.set_cons_succ, List.set_cons_zero])))
      (apply rel.walk_val; (focus (intro wq hq hf; go_wp2; refine ⟨hq, Below.refl _ _, ?_, rfl⟩; (show rel.slot _ _ = _; simp only [rel.slot_lit, List.getD_cons_succ, List.getD_cons_zero]; (first | done | exact rfl)))); (simp only [rel.put_lit, List.set_cons_succ, List.set_cons_zero]))
      (apply rel.walk_val; (focus (intro wq hq hf; go_wp2; refine ⟨hq, Below.refl _ _, ?_, rfl⟩; (show rel.slot _ _ = _; simp only [rel.slot_lit, List.getD_cons_succ, List.getD_cons_zero]; (first | done | exact rfl)))); (simp only [rel.put_lit, List.set_cons_succ, List.set_cons_zero]))
      (apply rel.walk_val; (focus (intro wq hq hf; go_wp2; refine ⟨hq, Below.refl _ _, ?_, rfl⟩; (show rel.slot _ _ = _; simp only [rel.slot_lit, List.getD_cons_succ, List.getD_cons_zero]; (first | done | exact rfl)))); (simp only [rel.put_lit, List.set_cons_succ, List.set_cons_zero]))
      ((apply rel.walk_val; (focus (intro wq hq hf; (have d0 := (hq.cell (p := ⟨b, off + k, none⟩) hbw).trans hcx); go_wp2; refine ⟨hq, Below.refl _ _, ?_, rfl⟩; (show rel.slot _ _ = _; simp only [rel.slot_lit, List.getD_cons_succ, List.getD_cons_zero]; (first | done | exact rfl)))); (simp only [rel.put_lit, List.set_cons_succ, List.set_cons_zero])))
      (apply rel.walk_rel (fun u w' => avl.IsSet w' w'.heap.size u (D)) ⟨_, rfl⟩ (fun u w1 w2 h1 h2 => h2.on h1); (focus (intro wq hq hf; go_wp2_with (go_at_call 9; with_reducible refine (hdr _ hq).mono ?_; rintro e w'' ⟨⟨u, rfl, hu⟩, hb⟩); refine ⟨hq.trans (hb.mono hq.size), hb, ?_, rfl⟩; (show avl.IsSet _ _ (rel.slot _ _) _; simp only [rel.slot_lit, List.getD_cons_succ, List.getD_cons_zero]; exact hu))); (intro u wu _ hu; obtain ⟨pz, t_pz, rfl, -⟩ := hu; (simp only [rel.put_lit, List.set_cons_succ, List.set_cons_zero])))
      refine rel.walk_nil ?_
      intro w9 K9 hF
      have hu : IsSet w9 w9.heap.size (rv pz D.length) D := hF _ (List.mem_cons_self ..)
      have hR9 := hA.on K9
      obtain ⟨d0, d1⟩ := hR9.cells2
      have f0 := hR9.free 0
      have f1 := hR9.free 1
      clear hF hdr hA
      simp only [List.drop_succ_cons, List.drop_zero]
      go_wp2_with fail
      obtain ⟨W9, hW9, hS, hQ, hB, -⟩ := avl.stored (k := (D.length : Int)) rfl hR9 hgb (hb.trans (K9.mono hb.size)) hu
      rw [hW9]
      clear hW9 d0 d1 f0 f1 hR9
      go_roundw
      case rel => exact ⟨k + 1, D, pz, by go_num, by omega, by omega, hB, hS, hQ⟩
      case measure => simp [intOf]; omega
    · have hsh := fun W (hW : Below wr.heap.size wr W) => set_shape (hX.on hW) hlK
      obtain ⟨d0, d1⟩ := hA.cells2
      have hlen := fun W (hW : Below wr.heap.size wr W) => len_any _ _ _ (hX.on hW)
      obtain rfl : k = l1.length := by omega
      obtain ⟨N, hN⟩ : ∃ N, K.length = N := ⟨_, rfl⟩
      have hsh2 : Calls Try.prog 20 #[rv q K.length] wr fun e w' => (∃ a c t, e = .returned (.slice a N c) ∧ Avl t ∧ keys t = K ∧ IsNds w' w'.heap.size (.slice a N c) (shp t 0)) ∧ Below wr.heap.size wr w' :=
        (hsh _ (Below.refl _ _)).mono fun e w' ⟨⟨u, t, he, h1, h2, h3⟩, hb⟩ => by
          have hl : (shp t 0).length = N := by rw [shp_len, h2, hN]
          obtain ⟨a, c, rfl, h4⟩ := h3
          rw [hl] at he
          exact ⟨⟨a, c, t, he, h1, h2, a, c, by rw [hl], h4⟩, hb⟩
      have hlen2 := fun W (hW : Below wr.heap.size wr W) => hlen W hW
      rw [show rv q K.length = rv q N by rw [hN]] at hsh2
      rw [hN] at hlK hA d1 hlen2
      rcases Nat.eq_zero_or_pos N with h0 | h0
      · subst h0
        have hA0 : hp.Blk wr γ tyH [.pointer q, .int .i64 0] := hA
        have hsh3 : Calls Try.prog 20 #[.agg #[.pointer q, .int .i64 0]] wr fun e w' => (∃ a c, e = .returned (.slice a 0 c)) ∧ Below wr.heap.size wr w' := hsh2.mono fun e w' ⟨⟨a, c, t, he, _⟩, hb⟩ => ⟨⟨a, c, he⟩, hb⟩
        have hlen3 : ∀ W, Below wr.heap.size wr W → Calls Try.prog 16 #[.agg #[.pointer q, .int .i64 0]] W fun e w' => e = .returned (.int .i64 0) ∧ Below W.heap.size W w' := hlen2
        obtain ⟨e0, e1⟩ := hA0.cells2
        clear hlen hX hc1 hwf1 d0 d1 hA hsh2 hlen2 hsh
        go_wp2_with (first
          | (go_at_call 20; (with_reducible refine hsh3.mono ?_); clear hsh3; rintro e w2 ⟨⟨an, cn, rfl⟩, hb2⟩; replace hA0 := hA0.on hb2; ((try clear e0 e1); obtain ⟨e0, e1⟩ := (hA0).cells2))
          | (go_at_call 16; (with_reducible refine (hlen3 _ hb2).mono ?_); clear hlen3; rintro e w3 ⟨rfl, hb3⟩))
        go_ret
        exact ⟨rfl, hb.trans ((hb2.trans (hb3.mono hb2.size)).mono hb.size)⟩
      · clear hlen hlen2 hX hc1 hwf1 hA hsh
        go_wp2_with (go_at_call 20; (with_reducible refine hsh2.mono ?_); clear hsh2; rintro e w2 ⟨⟨an, cn, t, rfl, hav, hkt, hnd⟩, hb2⟩)
        have hma := many hav
        rw [hkt, hN] at hma
        have hat := At.top t
        rcases t with _ | ⟨x, m, l, r⟩
        · rw [← hkt] at hN; simp [keys] at hN; omega
        obtain ⟨ho, hnj, -, -⟩ := hat.node
        obtain ⟨g, cap, he, hg, -, -, -, q3⟩ := hnd.at hnj
        rw [show (shp (.node x m l r) 0).length = N by rw [shp_len, hkt, hN]] at he
        cases he
        simp only [Nat.zero_mul, Nat.zero_add] at q3
        rw [hav.1] at q3
        have hH1 : 1 ≤ hgt (.node x m l r) := by simp [hgt]
        change w2.cell? ⟨g, 3, none⟩ = some (.int .i64 ((hgt (.node x m l r) : Nat) : Int)) at q3
        obtain ⟨H, hH⟩ : ∃ H, hgt (.node x m l r) = H := ⟨_, rfl⟩
        rw [hH] at q3 hma hH1
        have hHN : H ≤ N := by
          rw [← hN, ← hkt, ← hH]; exact hgt_le _
        have hFs : ∀ j, j + 1 ≤ H → F (j + 1) ≤ N := fun j hj => Nat.le_trans (F_le hj) hma
        replace hb := hb.trans (hb2.mono hb.size)
        clear hnd hnj hat hav hkt hH hN ho hb2 d0 d1
        go_wp2_with fail
        go_loopw [9, 10, 11] (fun a b i W => ∃ j : Nat, a = .int .i64 (F j) ∧ b = .int .i64 (F (j + 1)) ∧ i = .int .i64 ((j + 1 : Nat) : Int) ∧ j + 1 ≤ H ∧ Below w2.heap.size w2 W) (fun _ _ i _ => H - (intOf i).toNat)
        case atStart => exact ⟨0, rfl, rfl, rfl, hH1, Below.refl _ _⟩
        case round =>
          rename World => W
          obtain ⟨j, rfl, rfl, rfl, hj, hbW⟩ := hrel
          have hF1 := hFs j hj
          have c3 := (hbW.cell (p := ⟨g, 3, none⟩) hg).trans q3
          have hg1 := Nat.lt_of_lt_of_le hg hbW.size
          by_cases hlt : j + 1 < H
          · have hF2 := hFs (j + 1) (by omega)
            have hFe : F (j + 1 + 1) = F (j + 1) + F j + 1 := rfl
            obtain ⟨a, ha⟩ : ∃ a, F j = a := ⟨_, rfl⟩
            obtain ⟨b, hb'⟩ : ∃ b, F (j + 1) = b := ⟨_, rfl⟩
            rw [ha, hb'] at hFe
            rw [hb'] at hF1
            rw [hFe] at hF2
            rw [ha, hb']
            replace hFe := Lib.hid hFe
            replace ha := Lib.hid ha
            replace hb' := Lib.hid hb'
            clear hFs q3
            obtain ⟨i, hi⟩ : ∃ i, j + 1 = i := ⟨_, rfl⟩
            rw [hi] at hj hlt hFe hb' ⊢
            replace hi := Lib.hid hi
            go_wp2_with fail
            go_roundw
            case rel => exact ⟨i, by rw [hb'.out], by rw [hFe.out]; go_num, by go_num, by omega, hbW⟩
            case measure => simp [intOf]; omega
          · obtain ⟨b, hb'⟩ : ∃ b, F (j + 1) = b := ⟨_, rfl⟩
            rw [hb'] at hF1 ⊢
            obtain ⟨a, ha⟩ : ∃ a, F j = a := ⟨_, rfl⟩
            rw [ha]
            obtain ⟨i, hi⟩ : ∃ i, j + 1 = i := ⟨_, rfl⟩
            rw [hi] at hj hlt ⊢
            clear hFs q3 hi ha hb'
            go_wp2_with fail
            go_ret
            exact ⟨rfl, hb.trans (hbW.mono hb.size)⟩
end Go.Proofs.Ytapedlmbikadmaa.avlFew
