/- The walk of PrioOwn. -/
import Derived.Test.YtfbeiimmcemniaaPriWalks
namespace Go.Proofs.Ytfbeiimmcemniaa.prioOwn
open Go Go.RowKit Go.Proofs.Ytfbeiimmcemniaa.rws Go.Proofs.Ytfbeiimmcemniaa.pri
set_option linter.unusedVariables false

/-- the numbers with their places -/
def num (l : List Int) (k : Nat) : List (Int × Int) := (List.range k).map fun j => (l.getD j 0, (j : Int))
theorem num_len (l : List Int) (k : Nat) : (num l k).length = k := by simp [num]
theorem num_succ (l : List Int) (k : Nat) : num l (k + 1) = num l k ++ [(l.getD k 0, (k : Int))] := by simp [num, List.range_succ]
theorem wf_nat (k : Nat) (h : k ≤ 17592186044416) : (Lit.int .i64 (k : Int)).wf = true := by
  simp only [Lit.wf, IntKind.min, IntKind.max, IntKind.signed, IntKind.bits, Bool.and_eq_true, decide_eq_true_eq]
  simp
  omega
theorem row_blk2 {w : World} {base n : Nat} {v : Value} {xs : List Value} (h : w.ownsRow base 32 2 v n xs) : ∃ a c g, v = .slice a n c ∧ (0 < n → a = some ⟨g, 0, none⟩ ∧ base ≤ g ∧ ∃ cs, hp.Blk w g 32 cs ∧ n * 2 ≤ cs.length) := by
  rcases h.2 with ⟨rfl, h0⟩ | ⟨g, cap, cur, rfl, hb, hg, hnc, hcm, hcs, htk⟩
  · exact ⟨none, 0, 0, by rw [h0], fun h => by omega⟩
  · exact ⟨_, cap, g, rfl, fun _ => ⟨rfl, hb, cur.toList, by simpa [hp.Blk] using hg, by simp; omega⟩⟩

set_option maxRecDepth 100000 in
set_option maxHeartbeats 8000000 in
theorem walk (v0 : Value) (l0 : List Int) (x1 : Int) (w : World) (i0 : hp.IsInts w w.heap.size v0 l0) (w1 : (Lit.int .i64 x1).wf = true) (bd0 : l0.length ≤ 17592186043904) :
    Calls Try.prog 6 #[v0, .int .i64 x1] w fun e w' => e = .returned (.bool true) ∧ Below w.heap.size w w' := by
  have hwf0 := i0.wf
  obtain ⟨az, cz, rfl, -, -, -, hcz⟩ := i0
  obtain ⟨n, hn⟩ : ∃ n, l0.length = n := ⟨_, rfl⟩
  rw [hn] at hcz bd0 ⊢
  have hwx : ∀ k, k < n → WfP (l0.getD k 0, (k : Int)) := fun k hk => ⟨hwf0 _ (by simp [show k < l0.length by omega]), wf_nat k (by omega)⟩
  have P1 := fun V => push_any (u := .agg #[.pointer none]) (l := []) (w := V) (0, 0) [(0, 0)] (IsT.nil V) ⟨by decide, by decide⟩ rfl (by decide)
  have P2 := fun V u (h : IsT V u [(0, 0)]) => len_any h
  simp only [List.length_singleton] at P1 P2
  have hB0 := hp.Blk.new w [.pointer none] 29
  have hb0 : Below w.heap.size w (w.alloc (.cells #[.pointer none] 29)) := by ((repeat' (first | with_reducible exact Below.refl _ _ | with_reducible apply Below.setCell | with_reducible apply below_drewN | with_reducible apply Below.drew | with_reducible apply Below.alloc | with_reducible refine Below.trans ?_ (Below.mono (by assumption) ?_))) <;> (first | (simp; done) | (simp; omega) | omega))
  go_enter Try.func6, Try.ntmps6
  go_wp2_with (first
    | (go_at_call 8; (with_reducible refine (P1 _).mono ?_); clear P1; rintro e wa ⟨⟨u1, rfl, h1⟩, Ka⟩)
    | (go_at_call 15; (with_reducible refine (P2 _ _ h1).mono ?_); clear P2; rintro e wb ⟨rfl, Kb⟩))
  have hBb := (hB0.on Ka).on Kb
  have hbb := (hb0.trans (Ka.mono hb0.size)).trans (Kb.mono (Nat.le_trans hb0.size Ka.size))
  clear hB0 hb0 Ka Kb h1
  go_loopw [6] (fun i wr => ∃ (k : Nat) (p : Option Addr), i = .int .i64 k ∧ k ≤ n ∧ Below w.heap.size w wr ∧ hp.Blk wr w.heap.size 29 [.pointer p] ∧ IsT wr (.agg #[.pointer p]) (num l0 k)) (fun i _ => n - (intOf i).toNat)
  case atStart => exact ⟨0, none, rfl, by omega, hbb, hBb, IsT.nil _⟩
  case round =>
    clear hbb hBb
    obtain ⟨k, p, rfl, hk, hb, hB, hT⟩ := hrel
    by_cases hlt : k < n
    · obtain ⟨b, off, rfl, hb0, hcell⟩ := hcz (by omega)
      have kp := (hb.cell (p := ⟨b, off + k, none⟩) hb0).trans (hcell k hlt)
      have hbw : b < wr.heap.size := by have := hb.size; omega
      have hw := hwx k hlt
      have s1 := num_succ l0 k
      generalize l0.getD k 0 = y at *
      obtain ⟨L, hL⟩ : ∃ L, num l0 (k + 1) = L := ⟨_, rfl⟩
      have hLl : L.length = k + 1 := by rw [← hL, num_len]
      rw [hL] at s1
      have H := fun V (K : Below wr.heap.size wr V) => push_any (y, (k : Int)) L (hT.on K) hw s1.symm (by omega)
      simp only at H
      replace hL := Lib.hid hL
      clear s1 hcell hcz hT hwx hw hLl
      go_wp2_with fail
      apply rel.region_tail (C := fun w' => Below wr.heap.size wr w') (X := fun w w' => Below w.heap.size w w') 8 (by kernel_rfl) (by kernel_rfl) (by kernel_rfl) (by kernel_rfl) ((Below.refl _ _).drew)
      ((apply rel.walk_val; (focus (intro wq hq hf; (have d0 := (((hB).below hq (hB).lt)).cell 0; simp only [List.getElem?_cons_zero] at d0); go_wp2; refine ⟨hq, Below.refl _ _, ?_, rfl⟩; (show rel.slot _ _ = _; simp only [rel.slot_lit, List.getD_cons_succ, List.getD_cons_zero]; (first | done | exact rfl)))); (simp only [rel.put_lit, List.set_cons_succ, List.set_cons_zero])))
      (apply rel.walk_val; (focus (intro wq hq hf; go_wp2; refine ⟨hq, Below.refl _ _, ?_, rfl⟩; (show rel.slot _ _ = _; simp only [rel.slot_lit, List.getD_cons_succ, List.getD_cons_zero]; (first | done | exact rfl)))); (simp only [rel.put_lit, List.set_cons_succ, List.set_cons_zero]))
      (apply rel.walk_val; (focus (intro wq hq hf; go_wp2; refine ⟨hq, Below.refl _ _, ?_, rfl⟩; (show rel.slot _ _ = _; simp only [rel.slot_lit, List.getD_cons_succ, List.getD_cons_zero]; (first | done | exact rfl)))); (simp only [rel.put_lit, List.set_cons_succ, List.set_cons_zero]))
      (apply rel.walk_val; (focus (intro wq hq hf; go_wp2; refine ⟨hq, Below.refl _ _, ?_, rfl⟩; (show rel.slot _ _ = _; simp only [rel.slot_lit, List.getD_cons_succ, List.getD_cons_zero]; (first | done | exact rfl)))); (simp only [rel.put_lit, List.set_cons_succ, List.set_cons_zero]))
      ((apply rel.walk_val; (focus (intro wq hq hf; (have d0 := (hq.cell (p := ⟨b, off + k, none⟩) hbw).trans kp); go_wp2; refine ⟨hq, Below.refl _ _, ?_, rfl⟩; (show rel.slot _ _ = _; simp only [rel.slot_lit, List.getD_cons_succ, List.getD_cons_zero]; (first | done | exact rfl)))); (simp only [rel.put_lit, List.set_cons_succ, List.set_cons_zero])))
      (apply rel.walk_val; (focus (intro wq hq hf; go_wp2; refine ⟨hq, Below.refl _ _, ?_, rfl⟩; (show rel.slot _ _ = _; simp only [rel.slot_lit, List.getD_cons_succ, List.getD_cons_zero]; (first | done | exact rfl)))); (simp only [rel.put_lit, List.set_cons_succ, List.set_cons_zero]))
      (apply rel.walk_val; (focus (intro wq hq hf; go_wp2; refine ⟨hq, Below.refl _ _, ?_, rfl⟩; (show rel.slot _ _ = _; simp only [rel.slot_lit, List.getD_cons_succ, List.getD_cons_zero]; (first | done | exact rfl)))); (simp only [rel.put_lit, List.set_cons_succ, List.set_cons_zero]))
      (apply rel.walk_rel (fun u w' => pri.IsT w' u L) ⟨_, rfl⟩ (fun u w1 w2 h1 h2 => h2.on h1); (focus (intro wq hq hf; go_wp2_with (go_at_call 8; with_reducible refine (H _ hq).mono ?_; rintro e w'' ⟨⟨u, rfl, hu⟩, hb⟩); refine ⟨hq.trans (hb.mono hq.size), hb, ?_, rfl⟩; (show pri.IsT _ (rel.slot _ _) _; simp only [rel.slot_lit, List.getD_cons_succ, List.getD_cons_zero]; exact hu))); (intro u wu _ hu; obtain ⟨q, rfl, -⟩ := hu; (simp only [rel.put_lit, List.set_cons_succ, List.set_cons_zero])))
      refine rel.walk_nil ?_
      intro w9 K9 hF
      have hu : IsT w9 (.agg #[.pointer q]) L := hF _ (List.mem_cons_self ..)
      clear hF H
      have hB9 := hB.on K9
      have d0 := hB9.cell 0
      have df := hB9.free
      simp only [List.getElem?_cons_zero] at d0
      simp only [List.drop_succ_cons, List.drop_zero]
      go_wp2_with fail
      go_roundw
      case rel => exact ⟨k + 1, q, by go_num, by omega, (hb.trans (K9.mono hb.size)).setCell (p := ⟨w.heap.size, 0, none⟩) (Nat.le_refl _) _, hB9.set 0 _, by rw [hL.out]; exact hu.keep (keep_queue hB9 _ _)⟩
      case measure => simp [intOf]; omega
    · obtain rfl : k = n := by omega
      clear hlt hk hcz
      obtain ⟨A, hA⟩ : ∃ A, num l0 k = A := ⟨_, rfl⟩
      have hAl : A.length = k := by rw [← hA, num_len]
      rw [hA] at hT
      have d0 := hB.cell 0
      have hlB := hB.lt
      simp only [List.getElem?_cons_zero] at d0
      have hv1 : Below wr.heap.size wr (wr.alloc (.cells #[] 32)) := by ((repeat' (first | with_reducible exact Below.refl _ _ | with_reducible apply Below.setCell | with_reducible apply below_drewN | with_reducible apply Below.drew | with_reducible apply Below.alloc | with_reducible refine Below.trans ?_ (Below.mono (by assumption) ?_))) <;> (first | (simp; done) | (simp; omega) | omega))
      have d1 := (hB.on hv1).cell 0
      have own0 := row_empty wr 32
      have I1 := items_any _ A _ (hT.on hv1) (by omega)
      simp only [List.getElem?_cons_zero] at d1
      clear hA hwx
      go_wp2_with (first
        | (go_at_call 14; (with_reducible refine I1.mono ?_); clear I1; rintro e wc ⟨⟨u1, rfl, hr1⟩, Kc⟩; have own1 := hp.row_on own0 Kc)
        | (at_builtin; refine append_empty rfl _ _ rfl wr.heap.size rfl own1 _ A rfl hr1 (by omega) (Nat.le_trans hv1.size Kc.size) ?_; intro va w3 own3 K3; have K := (hv1.trans (Kc.mono hv1.size)).trans K3; have hB3 := hB.on K; have d3 := hB3.cell 0; have l3 := hB3.lt; (simp only [List.getElem?_cons_zero] at d3); have I2 := items_own _ A _ (hT.on K) (by omega))
        | (go_at_call 14; (with_reducible refine I2.mono ?_); clear I2; rintro e w4 ⟨⟨u4, rfl, own4⟩, K4⟩; obtain ⟨a4, c4, g4, rfl, hg4⟩ := row_blk2 own4))
      rw [hAl] at own4 hg4 own3
      have hKK := K.trans (K4.mono K.size)
      have hB4 := hB.on hKK
      have hT4 := hT.on hKK
      have own34 := hp.row_on own3 K4
      have hb4 := hb.trans (hKK.mono hb.size)
      have hs4 : w.heap.size ≤ w3.heap.size := Nat.le_trans hb.size K.size
      have hne : 0 < k → some g4 ≠ va.ownBlock := fun h e => by have := (own3.lt g4 e.symm).2; have := (hg4 h).2.1; omega
      have hg5 : 0 < k → a4 = some ⟨g4, 0, none⟩ ∧ w3.heap.size ≤ g4 := fun h => ⟨(hg4 h).1, (hg4 h).2.1⟩
      have hg6 : 0 < k → ∃ cs, hp.Blk w4 g4 32 cs ∧ k * 2 ≤ cs.length := fun h => (hg4 h).2.2
      clear own4 hg4 own3 own1 own0 hr1 Kc K3 K4 hKK hv1 d0 d1 d3 hB3 l3 hlB hT hB hb K
      go_loopw [9] (fun i W => ∃ j : Nat, i = .int .i64 j ∧ j ≤ k ∧ Below w.heap.size w W ∧ hp.Blk W w.heap.size 29 [.pointer p] ∧ IsT W (.agg #[.pointer p]) A ∧ W.ownsRow wr.heap.size 32 2 va k (rws.flat pr A) ∧ (0 < k → ∃ cs, hp.Blk W g4 32 cs ∧ k * 2 ≤ cs.length)) (fun i _ => k - (intOf i).toNat)
      case atStart => exact ⟨0, rfl, by omega, hb4, hB4, hT4, own34, hg6⟩
      case round =>
        clear hb4 hB4 hT4 own34 hg6
        rename World => W
        obtain ⟨j, rfl, hj, hb, hB, hT, own, hg6⟩ := hrel
        by_cases hlt : j < k
        · obtain ⟨rfl, hg1⟩ := hg5 (by omega)
          obtain ⟨cs, hc, hcl⟩ := hg6 (by omega)
          have hn4 := hne (by omega)
          have e0 := hc.cell (j * 2)
          rw [List.getElem?_eq_getElem (by omega)] at e0
          have e1 := hc.free (j * 2)
          clear hg6 hg5 hne
          go_wp2
          go_roundw
          case rel => exact ⟨j + 1, by go_num, by omega, hb.setCell (p := ⟨g4, j * 2, none⟩) (by simp; omega) _, hB.other (blk_ne hB hc (by decide)) _, hT.keep (keep_aitem hc _ _), row_other own hn4, fun _ => ⟨_, hc.set (j * 2) _, by simp; omega⟩⟩
          case measure => simp [intOf]; omega
        · obtain rfl : j = k := by omega
          obtain ⟨X, x, Z, fl, hF, hfl, hZl⟩ := Found.exists A
          obtain ⟨T, hTe⟩ : ∃ T, X ++ Z = T := ⟨_, rfl⟩
          have P := pop_any W hT hF (by omega) T hTe
          rw [hTe] at hZl
          have RW : IsRw pr W W.heap.size va A := IsRw.of_owns own hAl.symm
          obtain ⟨av, cv, rfl⟩ := RW.val
          have d0 := hB.cell 0
          have l0' := hB.lt
          simp only [List.getElem?_cons_zero] at d0
          have hL3 := fun V (K : Below W.heap.size W V) (q : Option Addr) (h : IsT V (.agg #[.pointer q]) T) => len_any h
          obtain ⟨t, ht⟩ : ∃ t, T.length = t := ⟨_, rfl⟩
          rw [hAl] at hfl hZl
          rw [ht] at hL3 hZl
          have hcase : (j = 0 ∧ fl = false ∧ t = 0) ∨ ∃ m, j = m + 1 ∧ fl = true ∧ t = m := by
            rcases Nat.eq_zero_or_pos j with h | h
            · exact .inl ⟨h, by rw [hfl, h]; rfl, by omega⟩
            · exact .inr ⟨j - 1, by omega, by rw [hfl]; simpa using h, by omega⟩
          have hA44 : A.length ≤ 17592186044416 := by omega
          rw [hAl] at RW ⊢
          replace hAl := Lib.hid hAl
          replace ht := Lib.hid ht
          clear hfl hZl hF hTe own hg6 hg5 hne hlt hs4 hwf0 hn hj
          rcases hcase with ⟨rfl, rfl, rfl⟩ | ⟨m, rfl, rfl, rfl⟩ <;> (
          go_wp2_with (first
            | (go_at_call 11; (with_reducible refine P.mono ?_); clear P; rintro e wp ⟨⟨q, rfl, hq⟩, Kp⟩; have hv : Below wp.heap.size wp ((wp.alloc (.cells #[.int .i64 x.1, .int .i64 x.2] 32)).alloc (.cells #[.pointer q] 29)) := (by ((repeat' (first | with_reducible exact Below.refl _ _ | with_reducible apply Below.setCell | with_reducible apply below_drewN | with_reducible apply Below.drew | with_reducible apply Below.alloc | with_reducible refine Below.trans ?_ (Below.mono (by assumption) ?_))) <;> (first | (simp; done) | (simp; omega) | omega))); have hQ : hp.Blk ((wp.alloc (.cells #[.int .i64 x.1, .int .i64 x.2] 32)).alloc (.cells #[.pointer q] 29)) (wp.heap.size + 1) 29 [.pointer q] := hp.Blk.newAt (by simp); have KV := Kp.trans (hv.mono Kp.size); have dV := (hB.on KV).cell 0; have lV := (hB.on KV).lt; (simp only [List.getElem?_cons_zero] at dV); have I3 := items_any _ A _ (hT.on KV) hA44)
            | (go_at_call 14; (with_reducible refine I3.mono ?_); clear I3; rintro e wi ⟨⟨ui, rfl, hri⟩, Ki⟩; have SI := items_eq rfl hri (RW.on (KV.trans (Ki.mono KV.size))))
            | (go_at_call 13; (with_reducible refine SI.mono ?_); clear SI; rintro e ws ⟨rfl, Ks⟩; have KS := (KV.trans (Ki.mono KV.size)).trans (Ks.mono (Nat.le_trans KV.size Ki.size)); have KQ := Ki.trans (Ks.mono Ki.size); have dQ := (hQ.on KQ).cell 0; have lQ := (hQ.on KQ).lt; (simp only [List.getElem?_cons_zero] at dQ); have L3 := hL3 _ KS q ((hq.on hv).on KQ))
            | (go_at_call 15; (with_reducible refine L3.mono ?_); clear L3; rintro e wl ⟨rfl, Kl⟩))
          go_ret
          exact ⟨rfl, hb.trans ((KS.trans (Kl.mono KS.size)).mono hb.size)⟩)
end Go.Proofs.Ytfbeiimmcemniaa.prioOwn
