/- The walk of RedHigh. -/
import Derived.Test.YteilbdoeggbhaaaRedWalks
import Derived.Test.YteilbdoeggbhaaaRedBlacks
namespace Go.Proofs.Yteilbdoeggbhaaa.redHigh
open Go Go.RowKit Go.Proofs.Yteilbdoeggbhaaa.red Go.Proofs.Yteilbdoeggbhaaa.sch
set_option linter.unusedVariables false

set_option maxRecDepth 100000 in
set_option maxHeartbeats 16000000 in
theorem walk (v0 : Value) (l0 : List Int) (v1 : Value) (l1 : List Int) (w : World) (i0 : hp.IsInts w w.heap.size v0 l0) (i1 : hp.IsInts w w.heap.size v1 l1) (bd : l0.length + l1.length ≤ 1048576) :
    Calls Try.prog 6 #[v0, v1] w fun e w' => e = .returned (.bool true) ∧ Below w.heap.size w w' := by
  have hul := uniq_le l0
  obtain ⟨K, hK⟩ : ∃ K, uniq l0 = K := ⟨_, rfl⟩
  rw [hK] at hul
  have H1 := fun W (hW : Below w.heap.size w W) => of_as hK (i0.on hW) (by omega)
  have hlK : K.length ≤ 1048576 := by omega
  have i0' := i0
  obtain ⟨a0, c0, rfl, -⟩ := i0'
  have KK := Below.refl w.heap.size w
  clear hul hK i0
  have i1' := i1
  obtain ⟨a1, c1, rfl, hn1, hm1, hwf1, hc1⟩ := i1'
  have hl1 : l1.length ≤ 1048576 := by omega
  clear bd hn1 hm1 i1
  go_enter Try.func6, Try.ntmps6
  go_wp2_with (first
    | (go_at_call 8; with_reducible refine (reded_any _).mono ?_; rintro e wa ⟨rfl, hb⟩; replace KK := st KK hb; clear hb)
    | (go_at_call 21; with_reducible refine (H1 _ KK).mono ?_; clear H1; rintro e wb ⟨⟨q1, rfl, hX⟩, hb⟩; have hA := hp.Blk.new wb [.pointer q1, .int .i64 K.length] tyH; replace KK := st KK hb; have hgb := KK.size; replace KK := st KK ((Below.refl _ _).alloc (Nat.le_refl _) (.cells #[.pointer q1, .int .i64 K.length] tyH)); replace hX := hX.on ((Below.refl _ _).alloc (Nat.le_refl _) (.cells #[.pointer q1, .int .i64 K.length] tyH)); clear hb))
  obtain ⟨γ, hγ⟩ : ∃ γ, wb.heap.size = γ := ⟨_, rfl⟩
  rw [hγ] at hA hgb ⊢
  go_loopw [7] (fun i wr => ∃ (k : Nat) (K : List Int) (q : Option Addr), i = .int .i64 k ∧ k ≤ l1.length ∧ K.length ≤ 1048576 ∧ Below w.heap.size w wr ∧ hp.Blk wr γ tyH [.pointer q, .int .i64 K.length] ∧ IsSet wr wr.heap.size (rv q K.length) K) (fun i _ => l1.length - (intOf i).toNat)
  case atStart => exact ⟨0, K, q1, rfl, Nat.zero_le _, hlK, KK, hA, hX⟩
  case round =>
    clear KK hX hA hlK hγ
    obtain ⟨k, K, q, rfl, hk, hlK, hb, hA, hX⟩ := hrel
    by_cases hlt : k < l1.length
    · obtain ⟨b, off, rfl, hbb, hce⟩ := hc1 (by omega)
      have hcx := (hb.cell (p := ⟨b, off + k, none⟩) hbb).trans (hce k hlt)
      have hwx : (Lit.int .i64 (l1.getD k 0)).wf = true := hwf1 _ (by simp [hlt])
      have hbw : b < wr.heap.size := Nat.lt_of_lt_of_le hbb hb.size
      obtain ⟨x, hx⟩ : ∃ x, l1.getD k 0 = x := ⟨_, rfl⟩
      rw [hx] at hcx hwx
      have hdl := del_le x K
      obtain ⟨D, hD⟩ : ∃ D, del x K = D := ⟨_, rfl⟩
      rw [hD] at hdl
      have hdr := fun W (hW : Below wr.heap.size wr W) => drop_as hD (hX.on hW) hwx (by omega)
      clear hc1 hce hwf1 hx hwx hD
      go_wp2_with fail
      apply rel.region_tail (C := fun w' => Below wr.heap.size wr w') (X := fun w w' => Below w.heap.size w w') 6 (by kernel_rfl) (by kernel_rfl) (by kernel_rfl) (by kernel_rfl) ((Below.refl _ _).drew)
      ((apply rel.walk_val; (focus (intro wq hq hf; (obtain ⟨d0, d1⟩ := ((hA).below hq (hA).lt).cells2); go_wp2; refine ⟨hq, Below.refl _ _, ?_, rfl⟩; (show rel.slot _ _ = _; simp only [rel.slot_lit, List.getD_cons_succ, List.getD_cons_zero]; (first | done | exact rfl)))); (simp only [rel.put_lit, List.set_cons_succ, List.set_cons_zero])))
      (apply rel.walk_val; (focus (intro wq hq hf; go_wp2; refine ⟨hq, Below.refl _ _, ?_, rfl⟩; (show rel.slot _ _ = _; simp only [rel.slot_lit, List.getD_cons_succ, List.getD_cons_zero]; (first | done | exact rfl)))); (simp only [rel.put_lit, List.set_cons_succ, List.set_cons_zero]))
      (apply rel.walk_val; (focus (intro wq hq hf; go_wp2; refine ⟨hq, Below.refl _ _, ?_, rfl⟩; (show rel.slot _ _ = _; simp only [rel.slot_lit, List.getD_cons_succ, List.getD_cons_zero]; (first | done | exact rfl)))); (simp only [rel.put_lit, List.set_cons_succ, List.set_cons_zero]))
      (apply rel.walk_val; (focus (intro wq hq hf; go_wp2; refine ⟨hq, Below.refl _ _, ?_, rfl⟩; (show rel.slot _ _ = _; simp only [rel.slot_lit, List.getD_cons_succ, List.getD_cons_zero]; (first | done | exact rfl)))); (simp only [rel.put_lit, List.set_cons_succ, List.set_cons_zero]))
      ((apply rel.walk_val; (focus (intro wq hq hf; (have d0 := (hq.cell (p := ⟨b, off + k, none⟩) hbw).trans hcx); go_wp2; refine ⟨hq, Below.refl _ _, ?_, rfl⟩; (show rel.slot _ _ = _; simp only [rel.slot_lit, List.getD_cons_succ, List.getD_cons_zero]; (first | done | exact rfl)))); (simp only [rel.put_lit, List.set_cons_succ, List.set_cons_zero])))
      (apply rel.walk_rel (fun u w' => red.IsSet w' w'.heap.size u (D)) ⟨_, rfl⟩ (fun u w1 w2 h1 h2 => h2.on h1); (focus (intro wq hq hf; go_wp2_with (go_at_call 9; with_reducible refine (hdr _ hq).mono ?_; rintro e w'' ⟨⟨u, rfl, hu⟩, hb⟩); refine ⟨hq.trans (hb.mono hq.size), hb, ?_, rfl⟩; (show red.IsSet _ _ (rel.slot _ _) _; simp only [rel.slot_lit, List.getD_cons_succ, List.getD_cons_zero]; exact hu))); (intro u wu _ hu; obtain ⟨pz, t_pz, rfl, -⟩ := hu; (simp only [rel.put_lit, List.set_cons_succ, List.set_cons_zero])))
      refine rel.walk_nil ?_
      intro w9 K9 hF
      have hu : IsSet w9 w9.heap.size (rv pz D.length) D := hF _ (List.mem_cons_self ..)
      have hR9 := hA.on K9
      obtain ⟨d0, d1⟩ := hR9.cells2
      have f0 := hR9.free 0
      have f1 := hR9.free 1
      clear hF hdr hA
      simp only [List.drop_succ_cons, List.drop_zero]
      go_wp2_with fail
      obtain ⟨W9, hW9, hS, hQ, hB, -⟩ := red.stored (k := (D.length : Int)) rfl hR9 hgb (hb.trans (K9.mono hb.size)) hu
      rw [hW9]
      clear hW9 d0 d1 f0 f1 hR9
      go_roundw
      case rel => exact ⟨k + 1, D, pz, by go_num, by omega, by omega, hB, hS, hQ⟩
      case measure => simp [intOf]; omega
    · have hsh := fun W (hW : Below wr.heap.size wr W) => set_shape (hX.on hW) hlK
      obtain ⟨d0, d1⟩ := hA.cells2
      have hlen := fun W (hW : Below wr.heap.size wr W) => len_any _ _ _ (hX.on hW)
      obtain rfl : k = l1.length := by omega
      obtain ⟨N, hN⟩ : ∃ N, K.length = N := ⟨_, rfl⟩
      have hsh2 : Calls Try.prog 20 #[rv q K.length] wr fun e w' => (∃ a c t, e = .returned (.slice a N c) ∧ Ok t ∧ keys t = K ∧ IsNds w' w'.heap.size (.slice a N c) (shp t 0)) ∧ Below wr.heap.size wr w' :=
        (hsh _ (Below.refl _ _)).mono fun e w' ⟨⟨u, t, he, h1, h2, h3⟩, hb⟩ => by
          have hl : (shp t 0).length = N := by rw [shp_len, h2, hN]
          obtain ⟨a, c, rfl, h4⟩ := h3
          rw [hl] at he
          exact ⟨⟨a, c, t, he, h1, h2, a, c, by rw [hl], h4⟩, hb⟩
      have hlen2 := fun W (hW : Below wr.heap.size wr W) => hlen W hW
      rw [show rv q K.length = rv q N by rw [hN]] at hsh2
      rw [hN] at hlK hA d1 hlen2
      rcases Nat.eq_zero_or_pos N with h0 | h0
      · subst h0
        have hA0 : hp.Blk wr γ tyH [.pointer q, .int .i64 0] := hA
        have hsh3 : Calls Try.prog 20 #[.agg #[.pointer q, .int .i64 0]] wr fun e w' => (∃ a c, e = .returned (.slice a 0 c)) ∧ Below wr.heap.size wr w' := hsh2.mono fun e w' ⟨⟨a, c, t, he, _⟩, hb⟩ => ⟨⟨a, c, he⟩, hb⟩
        have hlen3 : ∀ W, Below wr.heap.size wr W → Calls Try.prog 16 #[.agg #[.pointer q, .int .i64 0]] W fun e w' => e = .returned (.int .i64 0) ∧ Below W.heap.size W w' := hlen2
        obtain ⟨e0, e1⟩ := hA0.cells2
        clear hlen hX hc1 hwf1 d0 d1 hA hsh2 hlen2 hsh
        go_wp2_with (first
          | (go_at_call 20; (with_reducible refine hsh3.mono ?_); clear hsh3; rintro e w2 ⟨⟨an, cn, rfl⟩, hb2⟩; replace hA0 := hA0.on hb2; ((try clear e0 e1); obtain ⟨e0, e1⟩ := (hA0).cells2))
          | (go_at_call 16; (with_reducible refine (hlen3 _ hb2).mono ?_); clear hlen3; rintro e w3 ⟨rfl, hb3⟩))
        go_ret
        exact ⟨rfl, hb.trans ((hb2.trans (hb3.mono hb2.size)).mono hb.size)⟩
      · clear hlen hlen2 hX hc1 hwf1 hA hsh
        go_wp2_with (go_at_call 20; (with_reducible refine hsh2.mono ?_); clear hsh2; rintro e w2 ⟨⟨an, cn, t, rfl, hav, hkt, hnd⟩, hb2⟩)
        obtain ⟨⟨nb, hrb⟩, htop⟩ := hav
        have hma := hrb.many
        have hhi := hrb.high
        rw [if_neg htop] at hhi
        rw [hkt, hN] at hma
        have hns : (shp t 0).length = N := by rw [shp_len, hkt, hN]
        have hgl : hgt t ≤ N := by rw [← hN, ← hkt]; exact hgt_le t
        have ht0 : t ≠ .nil := by
          rintro rfl
          rw [← hkt] at hN
          simp [keys] at hN
          omega
        have hhc : ∀ W, Below w2.heap.size w2 W → Calls Try.prog 23 #[.slice an N cn, .int .i64 0] W fun e w' => e = .returned (.int .i64 ((hgt t : Nat) : Int)) ∧ Below W.heap.size W w' := by
          intro W hW
          have h0' : idx t 0 = 0 := by
            rcases t with _ | ⟨x, m, l, r⟩
            · exact absurd rfl ht0
            · rfl
          have := high_any (ns := shp t 0) (by omega) t 0 _ W (hnd.on hW) (At.top t)
          rw [h0'] at this
          exact this
        obtain ⟨H, hH⟩ : ∃ H, hgt t = H := ⟨_, rfl⟩
        rw [hH] at hhc hhi hgl
        replace hb := hb.trans (hb2.mono hb.size)
        have hN1 : ((N : Int) + 1) = ((N + 1 : Nat) : Int) := by omega
        clear hnd hrb htop hkt hns hH hN hb2 d0 d1 ht0
        go_wp2_with fail
        rw [hN1]
        go_loopw [9, 10] (fun a b W => ∃ k m : Nat, a = .int .i64 k ∧ b = .int .i64 m ∧ 1 ≤ m ∧ 2 ^ k * m ≤ N + 1 ∧ N + 1 < 2 ^ k * (m + 1) ∧ Below w2.heap.size w2 W) (fun _ b _ => (intOf b).toNat)
        case atStart => exact ⟨0, N + 1, rfl, rfl, by omega, by simp, by simp, Below.refl _ _⟩
        case round =>
          rename World => W
          obtain ⟨k, m, rfl, rfl, hm1, hlo, hup, hbW⟩ := hrel
          have hkk : k ≤ N := by
            have h1 : k < 2 ^ k := Nat.lt_two_pow_self
            have h2 : 2 ^ k * 1 ≤ 2 ^ k * m := Nat.mul_le_mul_left _ hm1
            omega
          have hmm : m ≤ N + 1 := by
            have h1 : 1 ≤ 2 ^ k := Nat.one_le_two_pow
            have h2 : 1 * m ≤ 2 ^ k * m := Nat.mul_le_mul_right _ h1
            omega
          by_cases hlt : 1 < m
          · obtain ⟨h, hh⟩ : ∃ h, m / 2 = h := ⟨_, rfl⟩
            have hq : ((m : Int)).tdiv 2 = (h : Int) := by rw [Int.tdiv_eq_ediv_of_nonneg (by omega)]; omega
            have hlo2 : 2 ^ (k + 1) * h ≤ N + 1 := by
              have h2 : 2 ^ k * (2 * h) ≤ 2 ^ k * m := Nat.mul_le_mul_left _ (by omega)
              rw [Nat.pow_succ, Nat.mul_assoc]
              omega
            have hup2 : N + 1 < 2 ^ (k + 1) * (h + 1) := by
              have h2 : 2 ^ k * (m + 1) ≤ 2 ^ k * (2 * (h + 1)) := Nat.mul_le_mul_left _ (by omega)
              rw [Nat.pow_succ, Nat.mul_assoc]
              omega
            have hd := Lib.hid (show 1 ≤ h ∧ h < m ∧ 2 ^ (k + 1) * h ≤ N + 1 ∧ N + 1 < 2 ^ (k + 1) * (h + 1) from ⟨by omega, by omega, hlo2, hup2⟩)
            have hh3 : h ≤ 1048577 := by omega
            clear hlo2 hup2 hlo hup hh hma hhi
            go_wp2_with fail
            go_roundw
            case rel => exact ⟨k + 1, h, by go_num, by go_num, hd.out.1, hd.out.2.2.1, hd.out.2.2.2, hbW⟩
            case measure => have := hd.out.2.1; simp [intOf]; omega
          · obtain rfl : m = 1 := by omega
            have hnk : nb ≤ k := by
              have h1 : 2 ^ nb < 2 ^ (k + 1) := by rw [Nat.pow_succ]; omega
              have := (Nat.pow_lt_pow_iff_right (a := 2) (by omega)).1 h1
              omega
            have hhk : H ≤ 2 * k := by omega
            have hhz : (H : Int) ≤ 2 * (k : Int) := by omega
            have hk20 : k ≤ 1048576 := by omega
            clear hlo hup hma hhi hnk hN1 hhk hmm hkk hlt
            go_wp2_with (go_at_call 23; (with_reducible refine (hhc _ hbW).mono ?_); clear hhc; rintro e w5 ⟨rfl, hb5⟩)
            go_ret
            exact ⟨rfl, hb.trans ((hbW.trans (hb5.mono hbW.size)).mono hb.size)⟩
end Go.Proofs.Yteilbdoeggbhaaa.redHigh
