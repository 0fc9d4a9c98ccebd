/- The walk of AvlEven. -/
import Derived.Test.YtapedlmbikadmaaAvlWalks
import Derived.Test.YtapedlmbikadmaaAvlShape
namespace Go.Proofs.Ytapedlmbikadmaa.avlEven
open Go Go.RowKit Go.Proofs.Ytapedlmbikadmaa.avl Go.Proofs.Ytapedlmbikadmaa.sch
set_option linter.unusedVariables false

set_option maxRecDepth 100000 in
set_option maxHeartbeats 16000000 in
theorem walk (v0 : Value) (l0 : List Int) (v1 : Value) (l1 : List Int) (w : World) (i0 : hp.IsInts w w.heap.size v0 l0) (i1 : hp.IsInts w w.heap.size v1 l1) (bd : l0.length + l1.length ≤ 1048576) :
    Calls Try.prog 5 #[v0, v1] w fun e w' => e = .returned (.bool true) ∧ Below w.heap.size w w' := by
  have hul := uniq_le l0
  obtain ⟨K, hK⟩ : ∃ K, uniq l0 = K := ⟨_, rfl⟩
  rw [hK] at hul
  have H1 := fun W (hW : Below w.heap.size w W) => of_as hK (i0.on hW) (by omega)
  have hlK : K.length ≤ 1048576 := by omega
  have i0' := i0
  obtain ⟨a0, c0, rfl, -⟩ := i0'
  have KK := Below.refl w.heap.size w
  clear hul hK i0
  have i1' := i1
  obtain ⟨a1, c1, rfl, hn1, hm1, hwf1, hc1⟩ := i1'
  have hl1 : l1.length ≤ 1048576 := by omega
  clear bd hn1 hm1 i1
  go_enter Try.func5, Try.ntmps5
  go_wp2_with (first
    | (go_at_call 8; with_reducible refine (avled_any _).mono ?_; rintro e wa ⟨rfl, hb⟩; replace KK := st KK hb; clear hb)
    | (go_at_call 21; with_reducible refine (H1 _ KK).mono ?_; clear H1; rintro e wb ⟨⟨q1, rfl, hX⟩, hb⟩; have hA := hp.Blk.new wb [.pointer q1, .int .i64 K.length] tyH; replace KK := st KK hb; have hgb := KK.size; replace KK := st KK ((Below.refl _ _).alloc (Nat.le_refl _) (.cells #[.pointer q1, .int .i64 K.length] tyH)); replace hX := hX.on ((Below.refl _ _).alloc (Nat.le_refl _) (.cells #[.pointer q1, .int .i64 K.length] tyH)); clear hb))
  obtain ⟨γ, hγ⟩ : ∃ γ, wb.heap.size = γ := ⟨_, rfl⟩
  rw [hγ] at hA hgb ⊢
  go_loopw [7] (fun i wr => ∃ (k : Nat) (K : List Int) (q : Option Addr), i = .int .i64 k ∧ k ≤ l1.length ∧ K.length ≤ 1048576 ∧ Below w.heap.size w wr ∧ hp.Blk wr γ tyH [.pointer q, .int .i64 K.length] ∧ IsSet wr wr.heap.size (rv q K.length) K) (fun i _ => l1.length - (intOf i).toNat)
  case atStart => exact ⟨0, K, q1, rfl, Nat.zero_le _, hlK, KK, hA, hX⟩
  case round =>
    clear KK hX hA hlK hγ
    obtain ⟨k, K, q, rfl, hk, hlK, hb, hA, hX⟩ := hrel
    by_cases hlt : k < l1.length
    · obtain ⟨b, off, rfl, hbb, hce⟩ := hc1 (by omega)
      have hcx := (hb.cell (p := ⟨b, off + k, none⟩) hbb).trans (hce k hlt)
      have hwx : (Lit.int .i64 (l1.getD k 0)).wf = true := hwf1 _ (by simp [hlt])
      have hbw : b < wr.heap.size := Nat.lt_of_lt_of_le hbb hb.size
      obtain ⟨x, hx⟩ : ∃ x, l1.getD k 0 = x := ⟨_, rfl⟩
      rw [hx] at hcx hwx
      have hdl := del_le x K
      obtain ⟨D, hD⟩ : ∃ D, del x K = D := ⟨_, rfl⟩
      rw [hD] at hdl
      have hdr := fun W (hW : Below wr.heap.size wr W) => drop_as hD (hX.on hW) hwx (by omega)
      clear hc1 hce hwf1 hx hwx hD
      go_wp2_with fail
      apply rel.region_tail (C := fun w' => Below wr.heap.size wr w') (X := fun w w' => Below w.heap.size w w') 6 (by kernel_rfl) (by kernel_rfl) (by kernel_rfl) (by kernel_rfl) ((Below.refl _ _).drew)
      ((apply rel.walk_val; (focus (intro wq hq hf; (obtain ⟨d0, d1⟩ := ((hA).below hq (hA).lt).cells2); go_wp2; refine ⟨hq, Below.refl _ _, ?_, rfl⟩; (show rel.slot _ _ = _; simp only [rel.slot_lit, List.getD_cons_succ, List.getD_cons_zero]; (first | done | exact rfl)))); (simp only [rel.put_lit, List.set_cons_succ, List.set_cons_zero])))
      (apply rel.walk_val; (focus (intro wq hq hf; go_wp2; refine ⟨hq, Below.refl _ _, ?_, rfl⟩; (show rel.slot _ _ = _; simp only [rel.slot_lit, List.getD_cons_succ, List.getD_cons_zero]; (first | done | exact rfl)))); (simp only [rel.put_lit, List.set_cons_succ, List.set_cons_zero]))
      (apply rel.walk_val; (focus (intro wq hq hf; go_wp2; refine ⟨hq, Below.refl _ _, ?_, rfl⟩; (show rel.slot _ _ = _; simp only [rel.slot_lit, List.getD_cons_succ, List.getD_cons_zero]; (first | done | exact rfl)))); (simp only [rel.put_lit, List.set_cons_succ, List.set_cons_zero]))
      (apply rel.walk_val; (focus (intro wq hq hf; go_wp2; refine ⟨hq, Below.refl _ _, ?_, rfl⟩; (show rel.slot _ _ = _; simp only [rel.slot_lit, List.getD_cons_succ, List.getD_cons_zero]; (first | done | exact rfl)))); (simp only [rel.put_lit, List.set_cons_succ, List.set_cons_zero]))
      ((apply rel.walk_val; (focus (intro wq hq hf; (have d0 := (hq.cell (p := ⟨b, off + k, none⟩) hbw).trans hcx); go_wp2; refine ⟨hq, Below.refl _ _, ?_, rfl⟩; (show rel.slot _ _ = _; simp only [rel.slot_lit, List.getD_cons_succ, List.getD_cons_zero]; (first | done | exact rfl)))); (simp only [rel.put_lit, List.set_cons_succ, List.set_cons_zero])))
      (apply rel.walk_rel (fun u w' => avl.IsSet w' w'.heap.size u (D)) ⟨_, rfl⟩ (fun u w1 w2 h1 h2 => h2.on h1); (focus (intro wq hq hf; go_wp2_with (go_at_call 9; with_reducible refine (hdr _ hq).mono ?_; rintro e w'' ⟨⟨u, rfl, hu⟩, hb⟩); refine ⟨hq.trans (hb.mono hq.size), hb, ?_, rfl⟩; (show avl.IsSet _ _ (rel.slot _ _) _; simp only [rel.slot_lit, List.getD_cons_succ, List.getD_cons_zero]; exact hu))); (intro u wu _ hu; obtain ⟨pz, t_pz, rfl, -⟩ := hu; (simp only [rel.put_lit, List.set_cons_succ, List.set_cons_zero])))
      refine rel.walk_nil ?_
      intro w9 K9 hF
      have hu : IsSet w9 w9.heap.size (rv pz D.length) D := hF _ (List.mem_cons_self ..)
      have hR9 := hA.on K9
      obtain ⟨d0, d1⟩ := hR9.cells2
      have f0 := hR9.free 0
      have f1 := hR9.free 1
      clear hF hdr hA
      simp only [List.drop_succ_cons, List.drop_zero]
      go_wp2_with fail
      obtain ⟨W9, hW9, hS, hQ, hB, -⟩ := avl.stored (k := (D.length : Int)) rfl hR9 hgb (hb.trans (K9.mono hb.size)) hu
      rw [hW9]
      clear hW9 d0 d1 f0 f1 hR9
      go_roundw
      case rel => exact ⟨k + 1, D, pz, by go_num, by omega, by omega, hB, hS, hQ⟩
      case measure => simp [intOf]; omega
    · have hsh := fun W (hW : Below wr.heap.size wr W) => set_shape (hX.on hW) hlK
      obtain ⟨d0, d1⟩ := hA.cells2
      have hlen := fun W (hW : Below wr.heap.size wr W) => len_any _ _ _ (hX.on hW)
      obtain rfl : k = l1.length := by omega
      go_wp2_with (go_at_call 20; (with_reducible refine (hsh _ (Below.refl _ _)).mono ?_); clear hsh; rintro e w2 ⟨⟨u, t, rfl, hav, hkt, hnd⟩, hb2⟩; have hnd2 := hnd; obtain ⟨an, cn, rfl, -⟩ := hnd2)
      have hlt' : (shp t 0).length = K.length := by rw [shp_len, hkt]
      have hsub := sub_at (P := Avl) avl_sub (ns := shp t 0) t 0 (At.top t) hav
      have hhi := fun (t' : Tr) (o : Nat) (W : World) (hW : Below w2.heap.size w2 W) (hat : At (shp t 0) t' o) => high_any (ns := shp t 0) (by omega) t' o _ W (hnd.on hW) hat
      have hA2 := hA.on hb2
      replace hb := hb.trans (hb2.mono hb.size)
      rw [hkt] at hsub
      simp only [Nat.zero_add] at hsub
      obtain ⟨N, hN⟩ : ∃ N, K.length = N := ⟨_, rfl⟩
      have hlen2 := fun W (hW : Below w2.heap.size w2 W) => hlen W (hb2.trans (hW.mono hb2.size))
      rw [hN] at hlt' hlK hA2 hsub hlen2
      obtain ⟨ns, hns⟩ : ∃ ns, shp t 0 = ns := ⟨_, rfl⟩
      rw [hns] at hlt' hsub hhi hnd
      rw [hns, hlt']
      rw [hlt'] at hhi
      replace hlt' := Lib.hid hlt'
      clear hlen hX hA d0 d1 hav hkt hns hN hb2 hc1 hwf1
      go_loopw [9] (fun i wr => ∃ j : Nat, i = .int .i64 j ∧ j ≤ N ∧ Below w2.heap.size w2 wr) (fun i _ => N - (intOf i).toNat)
      case atStart => exact ⟨0, rfl, Nat.zero_le _, Below.refl _ _⟩
      case round =>
        rename World => W
        obtain ⟨j, rfl, hj, hbW⟩ := hrel
        by_cases hlt : j < N
        · obtain ⟨x, m, l, r, hat, hm, k1, k2, -, -⟩ := hsub j (Nat.zero_le _) hlt
          obtain ⟨ho, hnj, hal, har⟩ := hat.node
          obtain ⟨g, cap, he, hg, -, q1, q2, q3⟩ := hnd.at hnj
          cases he
          simp only at q1 q2 q3
          have z1 := hgt_le l
          have z2 := hgt_le r
          have hla := hal.len
          have hra := har.len
          rw [hlt'.out] at hla hra
          have h1 := fun W (hW : Below w2.heap.size w2 W) => hhi l _ W hW hal
          have h2 := fun W (hW : Below w2.heap.size w2 W) => hhi r _ W hW har
          obtain ⟨li, hli⟩ : ∃ li, idx l (j + 1) = li := ⟨_, rfl⟩
          obtain ⟨ri, hri⟩ : ∃ ri, idx r (j + 1 + (keys l).length) = ri := ⟨_, rfl⟩
          rw [hli] at q1 h1
          rw [hri] at q2 h2
          obtain ⟨a, ha⟩ : ∃ a, hgt l = a := ⟨_, rfl⟩
          obtain ⟨b, hb'⟩ : ∃ b, hgt r = b := ⟨_, rfl⟩
          rw [ha] at h1 k1 k2 hm z1
          rw [hb'] at h2 k1 k2 hm z2
          have hm2 : m = 1 + max (a : Int) (b : Int) := by rw [hm]; omega
          subst hm2
          have ha2 : a ≤ 1048576 := by omega
          have hb2 : b ≤ 1048576 := by omega
          have p1 := fun W (hW : Below w2.heap.size w2 W) => (hW.cell (p := ⟨g, j * 4 + 1, none⟩) hg).trans q1
          have p2 := fun W (hW : Below w2.heap.size w2 W) => (hW.cell (p := ⟨g, j * 4 + 2, none⟩) hg).trans q2
          have p3 := fun W (hW : Below w2.heap.size w2 W) => (hW.cell (p := ⟨g, j * 4 + 3, none⟩) hg).trans q3
          have c1 := p1 _ hbW
          have hg1 := Nat.lt_of_lt_of_le hg hbW.size
          have kb1 : ¬ ((a : Int) - b > 1) := by omega
          have kb2 : ¬ ((b : Int) - a > 1) := by omega
          clear hat hnj hal har z1 z2 hla hra hli hri ha hb' hm k1 k2 hsub hhi q1 q2 q3
          go_wp2_with (first
            | (go_at_call 22; with_reducible refine (h1 _ hbW).mono ?_; clear h1 c1 hg1; rintro e w3 ⟨rfl, hb3⟩; replace hbW := hbW.trans (hb3.mono hbW.size); have c2 := p2 _ hbW; have hg1 := Nat.lt_of_lt_of_le hg hbW.size; clear hb3)
            | (go_at_call 22; with_reducible refine (h2 _ hbW).mono ?_; clear h2 c2 hg1; rintro e w4 ⟨rfl, hb3⟩; replace hbW := hbW.trans (hb3.mono hbW.size); have c3 := p3 _ hbW; have hg1 := Nat.lt_of_lt_of_le hg hbW.size; clear hb3))
          go_roundw
          case rel => exact ⟨j + 1, by go_num, by omega, hbW⟩
          case measure => simp [intOf]; omega
        · obtain rfl : j = N := by omega
          obtain ⟨d0, d1⟩ := (hA2.on hbW).cells2
          have hlen3 := hlen2 _ hbW
          clear hlen2 hsub hhi hA2
          go_wp2_with (go_at_call 16; with_reducible refine hlen3.mono ?_; clear hlen3; rintro e w5 ⟨rfl, hb5⟩)
          go_ret
          exact ⟨rfl, hb.trans ((hbW.trans (hb5.mono hbW.size)).mono hb.size)⟩
end Go.Proofs.Ytapedlmbikadmaa.avlEven
