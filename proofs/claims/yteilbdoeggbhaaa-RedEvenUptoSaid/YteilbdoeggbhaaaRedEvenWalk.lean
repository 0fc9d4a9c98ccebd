/- The walk of RedEven. -/
import Derived.Test.YteilbdoeggbhaaaRedWalks
import Derived.Test.YteilbdoeggbhaaaRedBlacks
namespace Go.Proofs.Yteilbdoeggbhaaa.redEven
open Go Go.RowKit Go.Proofs.Yteilbdoeggbhaaa.red Go.Proofs.Yteilbdoeggbhaaa.sch
set_option linter.unusedVariables false

set_option maxRecDepth 100000 in
set_option maxHeartbeats 16000000 in
theorem walk (v0 : Value) (l0 : List Int) (v1 : Value) (l1 : List Int) (w : World) (i0 : hp.IsInts w w.heap.size v0 l0) (i1 : hp.IsInts w w.heap.size v1 l1) (bd : l0.length + l1.length ≤ 1048576) :
    Calls Try.prog 5 #[v0, v1] w fun e w' => e = .returned (.bool true) ∧ Below w.heap.size w w' := by
  have hul := uniq_le l0
  obtain ⟨K, hK⟩ : ∃ K, uniq l0 = K := ⟨_, rfl⟩
  rw [hK] at hul
  have H1 := fun W (hW : Below w.heap.size w W) => of_as hK (i0.on hW) (by omega)
  have hlK : K.length ≤ 1048576 := by omega
  have i0' := i0
  obtain ⟨a0, c0, rfl, -⟩ := i0'
  have KK := Below.refl w.heap.size w
  clear hul hK i0
  have i1' := i1
  obtain ⟨a1, c1, rfl, hn1, hm1, hwf1, hc1⟩ := i1'
  have hl1 : l1.length ≤ 1048576 := by omega
  clear bd hn1 hm1 i1
  go_enter Try.func5, Try.ntmps5
  go_wp2_with (first
    | (go_at_call 8; with_reducible refine (reded_any _).mono ?_; rintro e wa ⟨rfl, hb⟩; replace KK := st KK hb; clear hb)
    | (go_at_call 21; with_reducible refine (H1 _ KK).mono ?_; clear H1; rintro e wb ⟨⟨q1, rfl, hX⟩, hb⟩; have hA := hp.Blk.new wb [.pointer q1, .int .i64 K.length] tyH; replace KK := st KK hb; have hgb := KK.size; replace KK := st KK ((Below.refl _ _).alloc (Nat.le_refl _) (.cells #[.pointer q1, .int .i64 K.length] tyH)); replace hX := hX.on ((Below.refl _ _).alloc (Nat.le_refl _) (.cells #[.pointer q1, .int .i64 K.length] tyH)); clear hb))
  obtain ⟨γ, hγ⟩ : ∃ γ, wb.heap.size = γ := ⟨_, rfl⟩
  rw [hγ] at hA hgb ⊢
  go_loopw [7] (fun i wr => ∃ (k : Nat) (K : List Int) (q : Option Addr), i = .int .i64 k ∧ k ≤ l1.length ∧ K.length ≤ 1048576 ∧ Below w.heap.size w wr ∧ hp.Blk wr γ tyH [.pointer q, .int .i64 K.length] ∧ IsSet wr wr.heap.size (rv q K.length) K) (fun i _ => l1.length - (intOf i).toNat)
  case atStart => exact ⟨0, K, q1, rfl, Nat.zero_le _, hlK, KK, hA, hX⟩
  case round =>
    clear KK hX hA hlK hγ
    obtain ⟨k, K, q, rfl, hk, hlK, hb, hA, hX⟩ := hrel
    by_cases hlt : k < l1.length
    · obtain ⟨b, off, rfl, hbb, hce⟩ := hc1 (by omega)
      have hcx := (hb.cell (p := ⟨b, off + k, none⟩) hbb).trans (hce k hlt)
      have hwx : (Lit.int .i64 (l1.getD k 0)).wf = true := hwf1 _ (by simp [hlt])
      have hbw : b < wr.heap.size := Nat.lt_of_lt_of_le hbb hb.size
      obtain ⟨x, hx⟩ : ∃ x, l1.getD k 0 = x := ⟨_, rfl⟩
      rw [hx] at hcx hwx
      have hdl := del_le x K
      obtain ⟨D, hD⟩ : ∃ D, del x K = D := ⟨_, rfl⟩
      rw [hD] at hdl
      have hdr := fun W (hW : Below wr.heap.size wr W) => drop_as hD (hX.on hW) hwx (by omega)
      clear hc1 hce hwf1 hx hwx hD
      go_wp2_with fail
      apply rel.region_tail (C := fun w' => Below wr.heap.size wr w') (X := fun w w' => Below w.heap.size w w') 6 (by kernel_rfl) (by kernel_rfl) (by kernel_rfl) (by kernel_rfl) ((Below.refl _ _).drew)
      ((apply rel.walk_val; (focus (intro wq hq hf; (obtain ⟨d0, d1⟩ := ((hA).below hq (hA).lt).cells2); go_wp2; refine ⟨hq, Below.refl _ _, ?_, rfl⟩; (show rel.slot _ _ = _; simp only [rel.slot_lit, List.getD_cons_succ, List.getD_cons_zero]; (first | done | exact rfl)))); (simp only [rel.put_lit, List.set_cons_succ, List.set_cons_zero])))
      (apply rel.walk_val; (focus (intro wq hq hf; go_wp2; refine ⟨hq, Below.refl _ _, ?_, rfl⟩; (show rel.slot _ _ = _; simp only [rel.slot_lit, List.getD_cons_succ, List.getD_cons_zero]; (first | done | exact rfl)))); (simp only [rel.put_lit, List.set_cons_succ, List.set_cons_zero]))
      (apply rel.walk_val; (focus (intro wq hq hf; go_wp2; refine ⟨hq, Below.refl _ _, ?_, rfl⟩; (show rel.slot _ _ = _; simp only [rel.slot_lit, List.getD_cons_succ, List.getD_cons_zero]; (first | done | exact rfl)))); (simp only [rel.put_lit, List.set_cons_succ, List.set_cons_zero]))
      (apply rel.walk_val; (focus (intro wq hq hf; go_wp2; refine ⟨hq, Below.refl _ _, ?_, rfl⟩; (show rel.slot _ _ = _; simp only [rel.slot_lit, List.getD_cons_succ, List.getD_cons_zero]; (first | done | exact rfl)))); (simp only [rel.put_lit, List.set_cons_succ, List.set_cons_zero]))
      ((apply rel.walk_val; (focus (intro wq hq hf; (have d0 := (hq.cell (p := ⟨b, off + k, none⟩) hbw).trans hcx); go_wp2; refine ⟨hq, Below.refl _ _, ?_, rfl⟩; (show rel.slot _ _ = _; simp only [rel.slot_lit, List.getD_cons_succ, List.getD_cons_zero]; (first | done | exact rfl)))); (simp only [rel.put_lit, List.set_cons_succ, List.set_cons_zero])))
      (apply rel.walk_rel (fun u w' => red.IsSet w' w'.heap.size u (D)) ⟨_, rfl⟩ (fun u w1 w2 h1 h2 => h2.on h1); (focus (intro wq hq hf; go_wp2_with (go_at_call 9; with_reducible refine (hdr _ hq).mono ?_; rintro e w'' ⟨⟨u, rfl, hu⟩, hb⟩); refine ⟨hq.trans (hb.mono hq.size), hb, ?_, rfl⟩; (show red.IsSet _ _ (rel.slot _ _) _; simp only [rel.slot_lit, List.getD_cons_succ, List.getD_cons_zero]; exact hu))); (intro u wu _ hu; obtain ⟨pz, t_pz, rfl, -⟩ := hu; (simp only [rel.put_lit, List.set_cons_succ, List.set_cons_zero])))
      refine rel.walk_nil ?_
      intro w9 K9 hF
      have hu : IsSet w9 w9.heap.size (rv pz D.length) D := hF _ (List.mem_cons_self ..)
      have hR9 := hA.on K9
      obtain ⟨d0, d1⟩ := hR9.cells2
      have f0 := hR9.free 0
      have f1 := hR9.free 1
      clear hF hdr hA
      simp only [List.drop_succ_cons, List.drop_zero]
      go_wp2_with fail
      obtain ⟨W9, hW9, hS, hQ, hB, -⟩ := red.stored (k := (D.length : Int)) rfl hR9 hgb (hb.trans (K9.mono hb.size)) hu
      rw [hW9]
      clear hW9 d0 d1 f0 f1 hR9
      go_roundw
      case rel => exact ⟨k + 1, D, pz, by go_num, by omega, by omega, hB, hS, hQ⟩
      case measure => simp [intOf]; omega
    · have hsh := fun W (hW : Below wr.heap.size wr W) => set_shape (hX.on hW) hlK
      obtain ⟨d0, d1⟩ := hA.cells2
      have hlen := fun W (hW : Below wr.heap.size wr W) => len_any _ _ _ (hX.on hW)
      obtain rfl : k = l1.length := by omega
      go_wp2_with (go_at_call 20; (with_reducible refine (hsh _ (Below.refl _ _)).mono ?_); clear hsh; rintro e w2 ⟨⟨u, t, rfl, hav, hkt, hnd⟩, hb2⟩; have hnd2 := hnd; obtain ⟨an, cn, rfl, -⟩ := hnd2)
      have hlt' : (shp t 0).length = K.length := by rw [shp_len, hkt]
      have hsub := sub_at (P := fun t => ∃ n, Rb t n) red_sub (ns := shp t 0) t 0 (At.top t) hav.1
      have hA2 := hA.on hb2
      replace hb := hb.trans (hb2.mono hb.size)
      rw [hkt] at hsub
      simp only [Nat.zero_add] at hsub
      obtain ⟨N, hN⟩ : ∃ N, K.length = N := ⟨_, rfl⟩
      have hlen2 := fun W (hW : Below w2.heap.size w2 W) => hlen W (hb2.trans (hW.mono hb2.size))
      rw [hN] at hlt' hlK hA2 hsub hlen2
      have hend : N = 0 ∨ ∃ (nb : Nat) (g : Nat), 0 < nb ∧ nb ≤ 1048576 ∧ an = some ⟨g, 0, none⟩ ∧ g < w2.heap.size ∧ w2.cell? ⟨g, 3, none⟩ = some (.int .i64 0) ∧ ∀ W, Below w2.heap.size w2 W → Calls Try.prog 22 #[.slice an (shp t 0).length cn, .int .i64 0] W fun e w' => e = .returned (.int .i64 (nb : Int)) ∧ Below W.heap.size W w' := by
        obtain ⟨⟨nb, hrb⟩, htop⟩ := hav
        have hfew := hrb.few
        rcases t with _ | ⟨x, m, l, r⟩
        · exact .inl (by rw [← hN, ← hkt]; rfl)
        · have hrb0 := hrb
          obtain ⟨hm, k', e, -⟩ := hrb
          obtain rfl : m = 0 := by
            rcases hm with h | h
            · exact h
            · exact absurd h htop
          obtain ⟨ho, hnj, -, -⟩ := (At.top (.node x 0 l r)).node
          obtain ⟨g, cap, he, hg, -, -, -, q3⟩ := hnd.at hnj
          cases he
          refine .inr ⟨nb, g, ?_, ?_, rfl, hg, ?_, fun W hW => ?_⟩
          · rw [e, bh_black]; omega
          · rw [hkt, hN] at hfew; omega
          · simpa using q3
          · exact blacks_any (by omega) (.node x 0 l r) 0 nb _ W (hnd.on hW) (At.top _) hrb0
      obtain ⟨ns, hns⟩ : ∃ ns, shp t 0 = ns := ⟨_, rfl⟩
      rw [hns] at hlt' hsub hnd hend
      rw [hns, hlt']
      rw [hlt'] at hend
      replace hlt' := Lib.hid hlt'
      clear hlen hX hA d0 d1 hav hkt hns hN hb2 hc1 hwf1
      go_loopw [9] (fun i wr => ∃ j : Nat, i = .int .i64 j ∧ j ≤ N ∧ Below w2.heap.size w2 wr) (fun i _ => N - (intOf i).toNat)
      case atStart => exact ⟨0, rfl, Nat.zero_le _, Below.refl _ _⟩
      case round =>
        rename World => W
        obtain ⟨j, rfl, hj, hbW⟩ := hrel
        by_cases hlt : j < N
        · obtain ⟨x, m, l, r, hat, ⟨nb, hm, k', -, hbl, hbr, hcol⟩⟩ := hsub j (Nat.zero_le _) hlt
          obtain ⟨ho, hnj, hal, har⟩ := hat.node
          obtain ⟨g, cap, he, hg, -, q1, q2, q3⟩ := hnd.at hnj
          cases he
          simp only at q1 q2 q3
          have c1 := (hbW.cell (p := ⟨g, j * 4 + 1, none⟩) hg).trans q1
          have c2 := (hbW.cell (p := ⟨g, j * 4 + 2, none⟩) hg).trans q2
          have c3 := (hbW.cell (p := ⟨g, j * 4 + 3, none⟩) hg).trans q3
          have hg1 := Nat.lt_of_lt_of_le hg hbW.size
          have kid : ∀ (t : Tr) (o k : Nat), At ns t o → Rb t k → top t ≠ 1 → idx t o = -1 ∨ (o < N ∧ idx t o = (o : Int) ∧ W.cell? ⟨g, o * 4 + 3, none⟩ = some (.int .i64 0)) := by
            intro t o k hat hrb htop
            rcases t with _ | ⟨y, m, c, d⟩
            · exact .inl rfl
            · obtain rfl : m = 0 := by
                rcases hrb.1 with h | h
                · exact h
                · exact absurd h htop
              obtain ⟨ho, hno, -, -⟩ := hat.node
              obtain ⟨g', cap', he', hg', -, -, -, q3'⟩ := hnd.at hno
              cases he'
              exact .inr ⟨by rw [hlt'.out] at ho; exact ho, rfl, (hbW.cell (p := ⟨_, o * 4 + 3, none⟩) hg').trans q3'⟩
          obtain ⟨oL, hoL⟩ : ∃ oL, j + 1 = oL := ⟨_, rfl⟩
          obtain ⟨oR, hoR⟩ : ∃ oR, j + 1 + (keys l).length = oR := ⟨_, rfl⟩
          have hout : j + 1 ≤ N := hlt
          rw [hoL] at hal c1
          rw [hoR] at har c2
          rcases hm with rfl | rfl
          · generalize idx l oL = li at *
            generalize idx r oR = ri at *
            clear hat hnj hal har hbl hbr hcol hsub q1 q2 q3 kid hoL hoR hend hnd ho
            go_wp2_with fail
            go_roundw
            case rel => exact ⟨j + 1, by go_num, by omega, hbW⟩
            case measure => simp [intOf]; omega
          · obtain ⟨n1, n2⟩ := hcol rfl
            have kl := kid l oL k' hal hbl n1
            have kr := kid r oR k' har hbr n2
            generalize idx l oL = li at *
            generalize idx r oR = ri at *
            clear hat hnj hal har hbl hbr hcol hsub q1 q2 q3 kid hoL hoR hend hnd ho n1 n2
            rcases kl with rfl | ⟨kl1, rfl, kl2⟩ <;> rcases kr with rfl | ⟨kr1, rfl, kr2⟩
            · go_wp2_with fail
              go_roundw
              case rel => exact ⟨j + 1, by go_num, by omega, hbW⟩
              case measure => simp [intOf]; omega
            · go_wp2_with fail
              go_roundw
              case rel => exact ⟨j + 1, by go_num, by omega, hbW⟩
              case measure => simp [intOf]; omega
            · go_wp2_with fail
              go_roundw
              case rel => exact ⟨j + 1, by go_num, by omega, hbW⟩
              case measure => simp [intOf]; omega
            · go_wp2_with fail
              go_roundw
              case rel => exact ⟨j + 1, by go_num, by omega, hbW⟩
              case measure => simp [intOf]; omega
        · obtain rfl : j = N := by omega
          have hA3 := hA2.on hbW
          obtain ⟨d0, d1⟩ := hA3.cells2
          have hlen3 := hlen2 _ hbW
          rcases Nat.eq_zero_or_pos j with h0 | h0
          · subst h0
            have hlen4 : Calls Try.prog 16 #[.agg #[.pointer q, .int .i64 0]] W fun e w' => e = .returned (.int .i64 0) ∧ Below W.heap.size W w' := hlen3
            have hA0 : hp.Blk W γ tyH [.pointer q, .int .i64 0] := hA3
            obtain ⟨e0, e1⟩ := hA0.cells2
            clear hlen2 hsub hA2 hnd hlen3 d0 d1 hA3
            go_wp2_with (go_at_call 16; (with_reducible refine hlen4.mono ?_); clear hlen4; rintro e w5 ⟨rfl, hb5⟩)
            go_ret
            exact ⟨rfl, hb.trans ((hbW.trans (hb5.mono hbW.size)).mono hb.size)⟩
          rcases hend with rfl | ⟨nb, g, hnb, hnb2, rfl, hg, hq3, hbk⟩
          · exact absurd h0 (by omega)
          · clear hlen2 hsub hA2 hnd
            focus
              have h00 : ¬ ((j : Int) = 0) := by omega
              have h01 : (0 : Int) < (nb : Int) := by omega
              go_wp2_with (first
                | (go_at_call 16; (with_reducible refine hlen3.mono ?_); clear hlen3; rintro e w5 ⟨rfl, hb5⟩; have hb6 := hbW.trans (hb5.mono hbW.size); have c3 := (hb6.cell (p := ⟨g, 3, none⟩) hg).trans hq3; have hg1 := Nat.lt_of_lt_of_le hg hb6.size)
                | (go_at_call 22; (with_reducible refine (hbk _ hb6).mono ?_); clear hbk; rintro e w7 ⟨rfl, hb7⟩))
              go_ret
              exact ⟨rfl, hb.trans ((hb6.trans (hb7.mono hb6.size)).mono hb.size)⟩
end Go.Proofs.Yteilbdoeggbhaaa.redEven
