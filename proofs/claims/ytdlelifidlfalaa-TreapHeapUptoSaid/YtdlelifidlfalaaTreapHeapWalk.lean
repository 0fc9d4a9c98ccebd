/- The walk of TreapHeap. -/
import Derived.Test.YtdlelifidlfalaaTrpWalks
import Derived.Test.YtdlelifidlfalaaTrpShape
import Derived.Test.YtdlelifidlfalaaSchInner
namespace Go.Proofs.Ytdlelifidlfalaa.treapHeap
open Go Go.RowKit Go.Proofs.Ytdlelifidlfalaa.trp Go.Proofs.Ytdlelifidlfalaa.sch
set_option linter.unusedVariables false

theorem tp_asc_sub (x m : Int) (l r : Tr) (h : Tp (.node x m l r) ∧ Asc (keys (.node x m l r))) : (Tp l ∧ Asc (keys l)) ∧ Tp r ∧ Asc (keys r) := by
  obtain ⟨⟨-, -, -, h1, h2⟩, ha⟩ := h
  obtain ⟨a1, a2, -, -⟩ := asc_node.1 ha
  exact ⟨⟨h1, a1⟩, h2, a2⟩
theorem prio_to (x m : Int) (h : prio x = m) (w : World) : Calls Try.prog 22 #[.int .i64 x] w fun e w' => e = .returned (.int .i64 m) ∧ Below w.heap.size w w' := by
  subst h
  exact (prio_any x w).mono fun e w' ⟨he, hw⟩ => ⟨he, hw ▸ Below.refl _ _⟩

set_option maxRecDepth 100000 in
set_option maxHeartbeats 16000000 in
theorem walk (v0 : Value) (l0 : List Int) (v1 : Value) (l1 : List Int) (w : World) (i0 : hp.IsInts w w.heap.size v0 l0) (i1 : hp.IsInts w w.heap.size v1 l1) (bd : l0.length + l1.length ≤ 1048576) :
    Calls Try.prog 5 #[v0, v1] w fun e w' => e = .returned (.bool true) ∧ Below w.heap.size w w' := by
  have hul := uniq_le l0
  obtain ⟨K, hK⟩ : ∃ K, uniq l0 = K := ⟨_, rfl⟩
  rw [hK] at hul
  have H1 := fun W (hW : Below w.heap.size w W) => of_as hK (i0.on hW) (by omega)
  have hlK : K.length ≤ 1048576 := by omega
  have i0' := i0
  obtain ⟨a0, c0, rfl, -⟩ := i0'
  have KK := Below.refl w.heap.size w
  clear hul hK i0
  have i1' := i1
  obtain ⟨a1, c1, rfl, hn1, hm1, hwf1, hc1⟩ := i1'
  have hl1 : l1.length ≤ 1048576 := by omega
  clear bd hn1 hm1 i1
  go_enter Try.func5, Try.ntmps5
  go_wp2_with (first
    | (go_at_call 8; with_reducible refine (treaped_any _).mono ?_; rintro e wa ⟨rfl, hb⟩; replace KK := st KK hb; clear hb)
    | (go_at_call 21; with_reducible refine (H1 _ KK).mono ?_; clear H1; rintro e wb ⟨⟨q1, rfl, hX⟩, hb⟩; have hA := hp.Blk.new wb [.pointer q1, .int .i64 K.length] tyH; replace KK := st KK hb; have hgb := KK.size; replace KK := st KK ((Below.refl _ _).alloc (Nat.le_refl _) (.cells #[.pointer q1, .int .i64 K.length] tyH)); replace hX := hX.on ((Below.refl _ _).alloc (Nat.le_refl _) (.cells #[.pointer q1, .int .i64 K.length] tyH)); clear hb))
  obtain ⟨γ, hγ⟩ : ∃ γ, wb.heap.size = γ := ⟨_, rfl⟩
  rw [hγ] at hA hgb ⊢
  go_loopw [7] (fun i wr => ∃ (k : Nat) (K : List Int) (q : Option Addr), i = .int .i64 k ∧ k ≤ l1.length ∧ K.length ≤ 1048576 ∧ Below w.heap.size w wr ∧ hp.Blk wr γ tyH [.pointer q, .int .i64 K.length] ∧ IsSet wr wr.heap.size (rv q K.length) K) (fun i _ => l1.length - (intOf i).toNat)
  case atStart => exact ⟨0, K, q1, rfl, Nat.zero_le _, hlK, KK, hA, hX⟩
  case round =>
    clear KK hX hA hlK hγ
    obtain ⟨k, K, q, rfl, hk, hlK, hb, hA, hX⟩ := hrel
    by_cases hlt : k < l1.length
    · obtain ⟨b, off, rfl, hbb, hce⟩ := hc1 (by omega)
      have hcx := (hb.cell (p := ⟨b, off + k, none⟩) hbb).trans (hce k hlt)
      have hwx : (Lit.int .i64 (l1.getD k 0)).wf = true := hwf1 _ (by simp [hlt])
      have hbw : b < wr.heap.size := Nat.lt_of_lt_of_le hbb hb.size
      obtain ⟨x, hx⟩ : ∃ x, l1.getD k 0 = x := ⟨_, rfl⟩
      rw [hx] at hcx hwx
      have hdl := del_le x K
      obtain ⟨D, hD⟩ : ∃ D, del x K = D := ⟨_, rfl⟩
      rw [hD] at hdl
      have hdr := fun W (hW : Below wr.heap.size wr W) => drop_as hD (hX.on hW) hwx (by omega)
      clear hc1 hce hwf1 hx hwx hD
      go_wp2_with fail
      apply rel.region_tail (C := fun w' => Below wr.heap.size wr w') (X := fun w w' => Below w.heap.size w w') 6 (by kernel_rfl) (by kernel_rfl) (by kernel_rfl) (by kernel_rfl) ((Below.refl _ _).drew)
      ((apply rel.walk_val; (focus (intro wq hq hf; (obtain ⟨d0, d1⟩ := ((hA).below hq (hA).lt).cells2); go_wp2; refine ⟨hq, Below.refl _ _, ?_, rfl⟩; (show rel.slot _ _ = _; simp only [rel.slot_lit, List.getD_cons_succ, List.getD_cons_zero]; (first | done | exact rfl)))); (simp only [rel.put_lit, List.set_cons_succ, List.set_cons_zero])))
      (apply rel.walk_val; (focus (intro wq hq hf; go_wp2; refine ⟨hq, Below.refl _ _, ?_, rfl⟩; (show rel.slot _ _ = _; simp only [rel.slot_lit, List.getD_cons_succ, List.getD_cons_zero]; (first | done | exact rfl)))); (simp only [rel.put_lit, List.set_cons_succ, List.set_cons_zero]))
      (apply rel.walk_val; (focus (intro wq hq hf; go_wp2; refine ⟨hq, Below.refl _ _, ?_, rfl⟩; (show rel.slot _ _ = _; simp only [rel.slot_lit, List.getD_cons_succ, List.getD_cons_zero]; (first | done | exact rfl)))); (simp only [rel.put_lit, List.set_cons_succ, List.set_cons_zero]))
      (apply rel.walk_val; (focus (intro wq hq hf; go_wp2; refine ⟨hq, Below.refl _ _, ?_, rfl⟩; (show rel.slot _ _ = _; simp only [rel.slot_lit, List.getD_cons_succ, List.getD_cons_zero]; (first | done | exact rfl)))); (simp only [rel.put_lit, List.set_cons_succ, List.set_cons_zero]))
      ((apply rel.walk_val; (focus (intro wq hq hf; (have d0 := (hq.cell (p := ⟨b, off + k, none⟩) hbw).trans hcx); go_wp2; refine ⟨hq, Below.refl _ _, ?_, rfl⟩; (show rel.slot _ _ = _; simp only [rel.slot_lit, List.getD_cons_succ, List.getD_cons_zero]; (first | done | exact rfl)))); (simp only [rel.put_lit, List.set_cons_succ, List.set_cons_zero])))
      (apply rel.walk_rel (fun u w' => trp.IsSet w' w'.heap.size u (D)) ⟨_, rfl⟩ (fun u w1 w2 h1 h2 => h2.on h1); (focus (intro wq hq hf; go_wp2_with (go_at_call 9; with_reducible refine (hdr _ hq).mono ?_; rintro e w'' ⟨⟨u, rfl, hu⟩, hb⟩); refine ⟨hq.trans (hb.mono hq.size), hb, ?_, rfl⟩; (show trp.IsSet _ _ (rel.slot _ _) _; simp only [rel.slot_lit, List.getD_cons_succ, List.getD_cons_zero]; exact hu))); (intro u wu _ hu; obtain ⟨pz, t_pz, rfl, -⟩ := hu; (simp only [rel.put_lit, List.set_cons_succ, List.set_cons_zero])))
      refine rel.walk_nil ?_
      intro w9 K9 hF
      have hu : IsSet w9 w9.heap.size (rv pz D.length) D := hF _ (List.mem_cons_self ..)
      have hR9 := hA.on K9
      obtain ⟨d0, d1⟩ := hR9.cells2
      have f0 := hR9.free 0
      have f1 := hR9.free 1
      clear hF hdr hA
      simp only [List.drop_succ_cons, List.drop_zero]
      go_wp2_with fail
      obtain ⟨W9, hW9, hS, hQ, hB, -⟩ := trp.stored (k := (D.length : Int)) rfl hR9 hgb (hb.trans (K9.mono hb.size)) hu
      rw [hW9]
      clear hW9 d0 d1 f0 f1 hR9
      go_roundw
      case rel => exact ⟨k + 1, D, pz, by go_num, by omega, by omega, hB, hS, hQ⟩
      case measure => simp [intOf]; omega
    · have hsh := fun W (hW : Below wr.heap.size wr W) => set_shape (hX.on hW) hlK
      obtain ⟨d0, d1⟩ := hA.cells2
      have hlen := fun W (hW : Below wr.heap.size wr W) => len_any _ _ _ (hX.on hW)
      obtain rfl : k = l1.length := by omega
      go_wp2_with (go_at_call 20; (with_reducible refine (hsh _ (Below.refl _ _)).mono ?_); clear hsh; rintro e w2 ⟨⟨u, t, rfl, hav, hkt, hnd⟩, hb2⟩; have hnd2 := hnd; obtain ⟨an, cn, rfl, -⟩ := hnd2)
      have hlt' : (shp t 0).length = K.length := by rw [shp_len, hkt]
      have hsub := sub_at (P := fun t => Tp t ∧ Asc (keys t)) tp_asc_sub (ns := shp t 0) t 0 (At.top t) ⟨hav, by rw [hkt]; exact hX.asc⟩
      have hA2 := hA.on hb2
      replace hb := hb.trans (hb2.mono hb.size)
      rw [hkt] at hsub
      simp only [Nat.zero_add] at hsub
      obtain ⟨N, hN⟩ : ∃ N, K.length = N := ⟨_, rfl⟩
      have hlen2 := fun W (hW : Below w2.heap.size w2 W) => hlen W (hb2.trans (hW.mono hb2.size))
      rw [hN] at hlt' hlK hA2 hsub hlen2
      obtain ⟨ns, hns⟩ : ∃ ns, shp t 0 = ns := ⟨_, rfl⟩
      rw [hns] at hlt' hsub hnd
      rw [hns, hlt']
      replace hlt' := Lib.hid hlt'
      clear hlen hX hA d0 d1 hav hkt hns hN hb2 hc1 hwf1
      go_loopw [9] (fun i wr => ∃ j : Nat, i = .int .i64 j ∧ j ≤ N ∧ Below w2.heap.size w2 wr) (fun i _ => N - (intOf i).toNat)
      case atStart => exact ⟨0, rfl, Nat.zero_le _, Below.refl _ _⟩
      case round =>
        rename World => W
        obtain ⟨j, rfl, hj, hbW⟩ := hrel
        by_cases hlt : j < N
        · obtain ⟨x, m, l, r, hat, ⟨⟨hm, hml, hmr, htl, htr⟩, hasc⟩⟩ := hsub j (Nat.zero_le _) hlt
          obtain ⟨ho, hnj, hal, har⟩ := hat.node
          obtain ⟨g, cap, he, hg, q0, q1, q2, q3⟩ := hnd.at hnj
          cases he
          simp only at q0 q1 q2 q3
          have hgw := Nat.lt_of_lt_of_le hg hbW.size
          have z0 := (hbW.cell (p := ⟨g, j * 4, none⟩) hg).trans q0
          have z3 := (hbW.cell (p := ⟨g, j * 4 + 3, none⟩) hg).trans q3
          have hpr := prio_to x m hm.symm
          obtain ⟨oL, hoL⟩ : ∃ oL, j + 1 = oL := ⟨_, rfl⟩
          obtain ⟨oR, hoR⟩ : ∃ oR, j + 1 + (keys l).length = oR := ⟨_, rfl⟩
          rw [hoL] at hal q1
          rw [hoR] at har q2
          have kl : idx l oL = -1 ∨ ∃ y k : Int, oL < N ∧ idx l oL = (oL : Int) ∧ w2.cell? ⟨g, oL * 4, none⟩ = some (.int .i64 y) ∧ w2.cell? ⟨g, oL * 4 + 3, none⟩ = some (.int .i64 k) ∧ k < m := by
            rcases l with _ | ⟨y, k, c, d⟩
            · exact .inl rfl
            · obtain ⟨ho, hno, -, -⟩ := hal.node
              obtain ⟨g', cap', he', hg', p0, -, -, p3⟩ := hnd.at hno
              cases he'
              exact .inr ⟨y, k, by rw [hlt'.out] at ho; exact ho, rfl, p0, p3, hml⟩
          have kr : idx r oR = -1 ∨ ∃ y k : Int, oR < N ∧ idx r oR = (oR : Int) ∧ w2.cell? ⟨g, oR * 4, none⟩ = some (.int .i64 y) ∧ w2.cell? ⟨g, oR * 4 + 3, none⟩ = some (.int .i64 k) ∧ (k < m ∨ (k = m ∧ x < y)) := by
            rcases r with _ | ⟨y, k, c, d⟩
            · exact .inl rfl
            · obtain ⟨ho, hno, -, -⟩ := har.node
              obtain ⟨g', cap', he', hg', p0, -, -, p3⟩ := hnd.at hno
              cases he'
              have hxy : x < y := (asc_node.1 hasc).2.2.2 y (by simp [keys])
              have hkm : k ≤ m := hmr
              exact .inr ⟨y, k, by rw [hlt'.out] at ho; exact ho, rfl, p0, p3, by omega⟩
          generalize idx l oL = li at *
          generalize idx r oR = ri at *
          clear hat hnj hal har hsub hoL hoR hnd ho hasc hm hml hmr htl htr
          go_wp2_with fail
          apply rel.region (C := fun w' => Below W.heap.size W w') (X := fun w w' => Below w.heap.size w w') (by kernel_rfl) (by kernel_rfl) (by kernel_rfl) ((Below.refl _ _).drew)
          (apply rel.walk_val; (focus (intro wq hq hf; go_wp2; refine ⟨hq, Below.refl _ _, ?_, rfl⟩; (show rel.slot _ _ = _; simp only [rel.slot_lit, List.getD_cons_succ, List.getD_cons_zero]; (first | done | exact rfl)))); (simp only [rel.put_lit, List.set_cons_succ, List.set_cons_zero]))
          (apply rel.walk_val; (focus (intro wq hq hf; go_wp2; refine ⟨hq, Below.refl _ _, ?_, rfl⟩; (show rel.slot _ _ = _; simp only [rel.slot_lit, List.getD_cons_succ, List.getD_cons_zero]; (first | done | exact rfl)))); (simp only [rel.put_lit, List.set_cons_succ, List.set_cons_zero]))
          (apply rel.walk_val; (focus (intro wq hq hf; go_wp2; refine ⟨hq, Below.refl _ _, ?_, rfl⟩; (show rel.slot _ _ = _; simp only [rel.slot_lit, List.getD_cons_succ, List.getD_cons_zero]; (first | done | exact rfl)))); (simp only [rel.put_lit, List.set_cons_succ, List.set_cons_zero]))
          (apply rel.walk_val; (focus (intro wq hq hf; go_wp2; refine ⟨hq, Below.refl _ _, ?_, rfl⟩; (show rel.slot _ _ = _; simp only [rel.slot_lit, List.getD_cons_succ, List.getD_cons_zero]; (first | done | exact rfl)))); (simp only [rel.put_lit, List.set_cons_succ, List.set_cons_zero]))
          ((apply rel.walk_val; (focus (intro wq hq hf; (have d0 := (hq.cell (p := ⟨g, j * 4 + 3, none⟩) hgw).trans z3); go_wp2; refine ⟨hq, Below.refl _ _, ?_, rfl⟩; (show rel.slot _ _ = _; simp only [rel.slot_lit, List.getD_cons_succ, List.getD_cons_zero]; (first | done | exact rfl)))); (simp only [rel.put_lit, List.set_cons_succ, List.set_cons_zero])))
          (apply rel.walk_val; (focus (intro wq hq hf; go_wp2; refine ⟨hq, Below.refl _ _, ?_, rfl⟩; (show rel.slot _ _ = _; simp only [rel.slot_lit, List.getD_cons_succ, List.getD_cons_zero]; (first | done | exact rfl)))); (simp only [rel.put_lit, List.set_cons_succ, List.set_cons_zero]))
          (apply rel.walk_val; (focus (intro wq hq hf; go_wp2; refine ⟨hq, Below.refl _ _, ?_, rfl⟩; (show rel.slot _ _ = _; simp only [rel.slot_lit, List.getD_cons_succ, List.getD_cons_zero]; (first | done | exact rfl)))); (simp only [rel.put_lit, List.set_cons_succ, List.set_cons_zero]))
          (apply rel.walk_val; (focus (intro wq hq hf; go_wp2; refine ⟨hq, Below.refl _ _, ?_, rfl⟩; (show rel.slot _ _ = _; simp only [rel.slot_lit, List.getD_cons_succ, List.getD_cons_zero]; (first | done | exact rfl)))); (simp only [rel.put_lit, List.set_cons_succ, List.set_cons_zero]))
          (apply rel.walk_val; (focus (intro wq hq hf; go_wp2; refine ⟨hq, Below.refl _ _, ?_, rfl⟩; (show rel.slot _ _ = _; simp only [rel.slot_lit, List.getD_cons_succ, List.getD_cons_zero]; (first | done | exact rfl)))); (simp only [rel.put_lit, List.set_cons_succ, List.set_cons_zero]))
          ((apply rel.walk_val; (focus (intro wq hq hf; (have d0 := (hq.cell (p := ⟨g, j * 4, none⟩) hgw).trans z0); go_wp2; refine ⟨hq, Below.refl _ _, ?_, rfl⟩; (show rel.slot _ _ = _; simp only [rel.slot_lit, List.getD_cons_succ, List.getD_cons_zero]; (first | done | exact rfl)))); (simp only [rel.put_lit, List.set_cons_succ, List.set_cons_zero])))
          (apply rel.walk_val; (focus (intro wq hq hf; go_wp2_with (go_at_call 22; refine (hpr _).mono ?_; rintro e w'' ⟨rfl, hb⟩); refine ⟨hq.trans (hb.mono hq.size), hb, ?_, rfl⟩; (show rel.slot _ _ = _; simp only [rel.slot_lit, List.getD_cons_succ, List.getD_cons_zero]; (first | done | exact rfl)))); (simp only [rel.put_lit, List.set_cons_succ, List.set_cons_zero]))
          (apply rel.walk_val; (focus (intro wq hq hf; go_wp2; refine ⟨hq, Below.refl _ _, ?_, rfl⟩; (show rel.slot _ _ = _; simp only [rel.slot_lit, List.getD_cons_succ, List.getD_cons_zero]; (first | done | exact rfl)))); (simp only [rel.put_lit, List.set_cons_succ, List.set_cons_zero]))
          refine rel.walk_nil ?_
          intro w9 K9 hF
          clear hF z0 z3 hpr hgw
          have hb9 := hbW.trans (K9.mono hbW.size)
          go_wp2_with fail
          have hj1 : j + 1 ≤ N := hlt
          go_loopw [10] (fun s V => ∃ k : Nat, s = .int .i64 k ∧ k ≤ 2 ∧ Below w2.heap.size w2 V) (fun s _ => 2 - (intOf s).toNat)
          case atStart => exact ⟨0, rfl, by omega, hb9⟩
          case round =>
            rename World => V
            obtain ⟨k, rfl, hk2, hbV⟩ := hrel
            have y0 := (hbV.cell (p := ⟨g, j * 4, none⟩) hg).trans q0
            have y1 := (hbV.cell (p := ⟨g, j * 4 + 1, none⟩) hg).trans q1
            have y2 := (hbV.cell (p := ⟨g, j * 4 + 2, none⟩) hg).trans q2
            have y3 := (hbV.cell (p := ⟨g, j * 4 + 3, none⟩) hg).trans q3
            have hgV := Nat.lt_of_lt_of_le hg hbV.size
            obtain rfl | rfl | rfl : k = 0 ∨ k = 1 ∨ k = 2 := by omega
            · clear kr y2 hb9
              rcases kl with rfl | ⟨y, k, hoN, rfl, p0, p3, hkm⟩
              · have gg : (decide ((0 : Int) ≤ -1)) = false := rfl
                go_wp2_with fail
                go_big_region
                go_wp2_with fail
                go_roundw
                case rel => exact ⟨1, rfl, by omega, hbV.drew⟩
                case measure => simp [intOf]
              · have x0 := (hbV.cell (p := ⟨g, oL * 4, none⟩) hg).trans p0
                have x3 := (hbV.cell (p := ⟨g, oL * 4 + 3, none⟩) hg).trans p3
                have g0 : decide ((0 : Int) ≤ (oL : Int)) = true := by simp
                have g1 : decide (m < k) = false := decide_eq_false (by omega)
                have g2 : (k == m) = false := by rw [beq_eq_false_iff_ne]; omega
                have g3 : ¬ m < k := by omega
                have g4 : ¬ k = m := by omega
                go_wp2_with fail
                go_big_region
                go_wp2_with fail
                go_roundw
                case rel => exact ⟨1, rfl, by omega, hbV.drew⟩
                case measure => simp [intOf]
            · clear kl hb9
              rcases kr with rfl | ⟨y, k, hoN, rfl, p0, p3, hkm | ⟨rfl, hxy⟩⟩
              · have gg : (decide ((0 : Int) ≤ -1)) = false := rfl
                go_wp2_with fail
                go_big_region
                go_wp2_with fail
                go_roundw
                case rel => exact ⟨2, rfl, by omega, hbV.drew⟩
                case measure => simp [intOf]
              · have x0 := (hbV.cell (p := ⟨g, oR * 4, none⟩) hg).trans p0
                have x3 := (hbV.cell (p := ⟨g, oR * 4 + 3, none⟩) hg).trans p3
                have g0 : decide ((0 : Int) ≤ (oR : Int)) = true := by simp
                have g1 : decide (m < k) = false := decide_eq_false (by omega)
                have g2 : (k == m) = false := by rw [beq_eq_false_iff_ne]; omega
                have g3 : ¬ m < k := by omega
                have g4 : ¬ k = m := by omega
                go_wp2_with fail
                go_big_region
                go_wp2_with fail
                go_roundw
                case rel => exact ⟨2, rfl, by omega, hbV.drew⟩
                case measure => simp [intOf]
              · have x0 := (hbV.cell (p := ⟨g, oR * 4, none⟩) hg).trans p0
                have x3 := (hbV.cell (p := ⟨g, oR * 4 + 3, none⟩) hg).trans p3
                have g0 : decide ((0 : Int) ≤ (oR : Int)) = true := by simp
                have g1 : decide (y < x) = false := decide_eq_false (by omega)
                have g3 : ¬ y < x := by omega
                go_wp2_with fail
                go_big_region
                go_wp2_with fail
                go_roundw
                case rel => exact ⟨2, rfl, by omega, hbV.drew⟩
                case measure => simp [intOf]
            · clear y0 y1 y2 y3 hgV kl kr hb9 q0 q1 q2 q3
              go_wp2_with fail
              go_roundw
              case rel => exact ⟨j + 1, by go_num, by omega, hbV⟩
              case measure => simp [intOf]; omega
        · obtain rfl : j = N := by omega
          have hA3 := hA2.on hbW
          obtain ⟨d0, d1⟩ := hA3.cells2
          have hlen3 := hlen2 _ hbW
          clear hlen2 hsub hA2 hnd
          go_wp2_with (go_at_call 16; (with_reducible refine hlen3.mono ?_); clear hlen3; rintro e w5 ⟨rfl, hb5⟩)
          go_ret
          exact ⟨rfl, hb.trans ((hbW.trans (hb5.mono hbW.size)).mono hb.size)⟩
end Go.Proofs.Ytdlelifidlfalaa.treapHeap
