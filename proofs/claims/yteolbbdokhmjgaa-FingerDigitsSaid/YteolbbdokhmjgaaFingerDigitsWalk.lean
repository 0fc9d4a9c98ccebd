/- The walk of FingerDigits. -/
import Derived.Test.YteolbbdokhmjgaaFinDigS
import Derived.Test.YteolbbdokhmjgaaFinSplit5
import Derived.Test.YteolbbdokhmjgaaFinWalks
namespace Go.Proofs.Yteolbbdokhmjgaa.fingerDigits
open Go Go.RowKit Go.Proofs.Yteolbbdokhmjgaa.fin Go.Proofs.Yteolbbdokhmjgaa.mono
set_option linter.unusedVariables false

theorem meas_n {u : Value} {l : List Int} {w : World} {n : Nat} (h : IsT w u l) (hn : l.length = n) : Calls Try.prog 17 #[u] w fun e w' => e = .returned (mvOf n l) ∧ Below w.heap.size w w' := hn ▸ measure_any h
theorem digits_n {u : Value} {l : List Int} {w : World} {n : Nat} (h : IsT w u l) (hn : l.length = n) (hb : n ≤ 35184372087808) : Calls Try.prog 23 #[u] w fun e w' => (∃ v ds, e = .returned v ∧ w'.ownsRow w.heap.size tyD 2 v ds.length (dcells ds) ∧ Dg n ds) ∧ Below w.heap.size w w' := by
  subst hn
  exact tDigits_any h (by omega)

theorem fin_of {ds : List (Nat × Nat)} {m c s t z s' N : Nat} {wd wr : World} (hm : m + 1 ≤ c) (h1 : psum ds (m + 1) = s') (h2 : s' = s + t) (h3 : 2 ^ (m + 1) = 2 * 2 ^ m) (h4 : 2 ^ m = z) (K : Below wd.heap.size wd wr) :
    (∃ m1 : Nat, Value.int IntKind.i64 ((m : Int) + 1) = Value.int IntKind.i64 m1 ∧ m1 ≤ c ∧ Value.int IntKind.i64 ((s : Int) + (t : Int)) = Value.int IntKind.i64 (psum ds m1 : Nat) ∧ Value.int IntKind.i64 (2 * (z : Int)) = Value.int IntKind.i64 ((2 ^ m1 : Nat) : Int) ∧ Below wd.heap.size wd wr.drew) ∧
      c - (intOf (Value.int IntKind.i64 ((m : Int) + 1))).toNat < c - (intOf (Value.int IntKind.i64 (m : Int))).toNat := by
  refine ⟨⟨m + 1, by simp, hm, by rw [h1, h2]; simp, ?_, K.drew⟩, ?_⟩
  · rw [h3, h4]; simp
  · clear h3 h4 h1 h2 K
    have e1 : (intOf (Value.int IntKind.i64 ((m : Int) + 1))).toNat = m + 1 := by simp [intOf] <;> omega
    have e2 : (intOf (Value.int IntKind.i64 (m : Int))).toNat = m := by simp [intOf]
    omega

theorem rend_of {j : Nat} {U W : World} (hj : j < 3) (K : Below U.heap.size U W) :
    (∃ j1 : Nat, Value.int IntKind.i64 ((j : Int) + 1) = Value.int IntKind.i64 j1 ∧ j1 ≤ 3 ∧ Below U.heap.size U W) ∧ 3 - (intOf (Value.int IntKind.i64 ((j : Int) + 1))).toNat < 3 - (intOf (Value.int IntKind.i64 (j : Int))).toNat := by
  refine ⟨⟨j + 1, by simp, hj, K⟩, ?_⟩
  have e1 : (intOf (Value.int IntKind.i64 ((j : Int) + 1))).toNat = j + 1 := by simp [intOf] <;> omega
  have e2 : (intOf (Value.int IntKind.i64 (j : Int))).toNat = j := by simp [intOf]
  omega

set_option maxRecDepth 100000 in
set_option maxHeartbeats 16000000 in
theorem walk (v0 : Value) (l0 : List Int) (v1 : Value) (l1 : List Int) (n : Int) (w : World) (i0 : hp.IsInts w w.heap.size v0 l0) (i1 : hp.IsInts w w.heap.size v1 l1) (hn : (Lit.int .i64 n).wf = true) (bd : l0.length ≤ 17592186043904) (bd1 : l1.length ≤ 17592186043904) :
    Calls Try.prog 4 #[v0, v1, .int .i64 n] w fun e w' => e = .returned (.bool true) ∧ Below w.heap.size w w' := by
  obtain ⟨W0, hW0⟩ : ∃ W, w.alloc (.cells #[.int .i64 n] 3) = W := ⟨_, rfl⟩
  have Bn : hp.Blk W0 w.heap.size 3 [.int .i64 n] := by rw [← hW0]; exact hp.Blk.new w [.int .i64 n] _
  have K : Below w.heap.size w W0 := by rw [← hW0]; ((repeat' (first | with_reducible exact Below.refl _ _ | with_reducible apply Below.setCell | with_reducible apply below_drewN | with_reducible apply Below.drew | with_reducible apply Below.alloc | with_reducible refine Below.trans ?_ (Below.mono (by assumption) ?_))) <;> (first | (simp; done) | (simp; omega) | omega))
  have O0 := fun W (K : Below w.heap.size w W) => of_any v0 l0 W (i0.on K) (by omega)
  have O1 := fun W (K : Below w.heap.size w W) => of_any v1 l1 W (i1.on K) (by omega)
  obtain ⟨L, hL⟩ : ∃ L, l0 ++ l1 = L := ⟨_, rfl⟩
  have nL : L.length ≤ 35184372087808 := by rw [← hL, List.length_append]; omega
  have JN := fun V u v (hu : IsT V u l0) (hv : IsT V v l1) => join_tree L hu hv hL (by omega)
  have SPL := fun V u (hu : IsT V u L) (kn : hp.Blk V w.heap.size 3 [.int .i64 n]) => tSplit 22 #[.pointer (some ⟨w.heap.size, 0, none⟩)] 35184372087808 (moreThan n) u L V hu nL (by omega) (fun W bq K hq hc => askD n _ bq _ W (kn.on K).lt ((kn.on K).cell 0) hq hc)
  clear i0 i1 bd bd1
  go_enter Try.func4, Try.ntmps4
  go_wp2_with (first
    | (go_at_call 9; (with_reducible refine (fingered_any _).mono ?_); rintro e wa ⟨rfl, hb⟩; replace Bn := Bn.on hb; (replace K := K.trans ((hb).mono K.size); clear hb))
    | (go_at_call 19; (with_reducible refine (O0 _ K).mono ?_); clear O0; rintro e wb ⟨⟨u, rfl, hA⟩, hb⟩; replace Bn := Bn.on hb; (replace K := K.trans ((hb).mono K.size); clear hb))
    | (go_at_call 19; (with_reducible refine (O1 _ K).mono ?_); clear O1; rintro e wc ⟨⟨u', rfl, hB⟩, hb⟩; replace hA := hA.on hb; replace Bn := Bn.on hb; (replace K := K.trans ((hb).mono K.size); clear hb))
    | (go_at_call 20; (with_reducible refine (JN _ _ _ hA hB).mono ?_); clear JN hA hB; rintro e wd ⟨⟨u, rfl, hC⟩, hb⟩; replace Bn := Bn.on hb; (replace K := K.trans ((hb).mono K.size); clear hb))
    | (go_at_call 21; (with_reducible refine (SPL _ _ hC Bn).mono ?_); clear SPL hC Bn; rintro e wc ⟨⟨a, b, X, Y, rfl, hX, hY, hcut⟩, hb⟩; (replace K := K.trans ((hb).mono K.size); clear hb)))
  obtain ⟨V, hV⟩ : ∃ V, (wc.alloc (.cells #[.pointer a] 28)).alloc (.cells #[.pointer b] 28) = V := ⟨_, rfl⟩
  have hv : Below wc.heap.size wc V := by rw [← hV]; ((repeat' (first | with_reducible exact Below.refl _ _ | with_reducible apply Below.setCell | with_reducible apply below_drewN | with_reducible apply Below.drew | with_reducible apply Below.alloc | with_reducible refine Below.trans ?_ (Below.mono (by assumption) ?_))) <;> (first | (simp; done) | (simp; omega) | omega))
  have BA : hp.Blk V wc.heap.size 28 [.pointer a] := by rw [← hV]; exact (hp.Blk.new wc [.pointer a] _).alloc _
  have BB : hp.Blk V (wc.heap.size + 1) 28 [.pointer b] := by rw [← hV]; exact hp.Blk.newAt (by simp)
  replace hX := hX.on hv
  replace hY := hY.on hv
  replace K := K.trans (hv.mono K.size)
  rw [hV]
  clear hV hv
  generalize wc.heap.size = ga at *
  have la := BA.lt
  have lb := BB.lt
  obtain ⟨oXY, -⟩ := id hcut
  have lXY := congrArg List.length oXY
  rw [List.length_append] at lXY
  obtain ⟨M, hM⟩ : ∃ M, Y ++ X = M := ⟨_, rfl⟩
  have lM : M.length ≤ 35184372087808 := by rw [← hM, List.length_append]; omega
  have JM := fun W u v (hu : IsT W u Y) (hv : IsT W v X) => join_tree M hu hv hM (by omega)
  clear oXY hcut hM
  have lX : X.length ≤ 35184372087808 := by omega
  have lY : Y.length ≤ 35184372087808 := by omega
  clear lXY nL hL
  apply rel.region_tail (C := fun w' => Below V.heap.size V w') (X := fun w w' => Below w.heap.size w w') 5 (by kernel_rfl) (by kernel_rfl) (by kernel_rfl) (by kernel_rfl) ((Below.refl _ _).drew)
  ((apply rel.walk_val; (focus (intro wq hq hf; (have d0 := (((BA).below hq (BA).lt)).cell 0; simp only [List.getElem?_cons_zero] at d0); go_wp2; refine ⟨hq, Below.refl _ _, ?_, rfl⟩; (show rel.slot _ _ = _; simp only [rel.slot_lit, List.getD_cons_succ, List.getD_cons_zero]; (first | done | exact rfl)))); (simp only [rel.put_lit, List.set_cons_succ, List.set_cons_zero])))
  ((apply rel.walk_val; (focus (intro wq hq hf; (have d0 := (((BB).below hq (BB).lt)).cell 0; simp only [List.getElem?_cons_zero] at d0); go_wp2; refine ⟨hq, Below.refl _ _, ?_, rfl⟩; (show rel.slot _ _ = _; simp only [rel.slot_lit, List.getD_cons_succ, List.getD_cons_zero]; (first | done | exact rfl)))); (simp only [rel.put_lit, List.set_cons_succ, List.set_cons_zero])))
  ((apply rel.walk_val; (focus (intro wq hq hf; (have d0 := (((BB).below hq (BB).lt)).cell 0; simp only [List.getElem?_cons_zero] at d0); go_wp2; refine ⟨hq, Below.refl _ _, ?_, rfl⟩; (show rel.slot _ _ = _; simp only [rel.slot_lit, List.getD_cons_succ, List.getD_cons_zero]; (first | done | exact rfl)))); (simp only [rel.put_lit, List.set_cons_succ, List.set_cons_zero])))
  ((apply rel.walk_val; (focus (intro wq hq hf; (have d0 := (((BA).below hq (BA).lt)).cell 0; simp only [List.getElem?_cons_zero] at d0); go_wp2; refine ⟨hq, Below.refl _ _, ?_, rfl⟩; (show rel.slot _ _ = _; simp only [rel.slot_lit, List.getD_cons_succ, List.getD_cons_zero]; (first | done | exact rfl)))); (simp only [rel.put_lit, List.set_cons_succ, List.set_cons_zero])))
  (apply rel.walk_rel (fun u w' => fin.IsT w' u (M)) ⟨_, rfl⟩ (fun u w1 w2 h1 h2 => h2.on h1); (focus (intro wq hq hf; go_wp2_with (go_at_call 20; with_reducible refine (JM _ _ _ (hY.on hq) (hX.on hq)).mono ?_; rintro e w'' ⟨⟨u, rfl, hu⟩, hb⟩); refine ⟨hq.trans (hb.mono hq.size), hb, ?_, rfl⟩; (show fin.IsT _ (rel.slot _ _) _; simp only [rel.slot_lit, List.getD_cons_succ, List.getD_cons_zero]; exact hu))); (intro u wu _ hu; obtain ⟨pc, rfl⟩ := fin.IsT.val hu; (simp only [rel.put_lit, List.set_cons_succ, List.set_cons_zero])))
  (refine rel.walk_nil ?_; intro w9 K9 hF; have hu9 := hF _ (List.mem_cons_self ..); clear hF)
  simp only [List.drop_succ_cons, List.drop_zero]
  go_wp2_with fail
  obtain ⟨U, hU⟩ : ∃ U, w9.alloc (.cells #[.pointer a, .pointer b, .pointer pc] 28) = U := ⟨_, rfl⟩
  have hu : Below w9.heap.size w9 U := by rw [← hU]; ((repeat' (first | with_reducible exact Below.refl _ _ | with_reducible apply Below.setCell | with_reducible apply below_drewN | with_reducible apply Below.drew | with_reducible apply Below.alloc | with_reducible refine Below.trans ?_ (Below.mono (by assumption) ?_))) <;> (first | (simp; done) | (simp; omega) | omega))
  have BC : hp.Blk U w9.heap.size 28 [.pointer a, .pointer b, .pointer pc] := by rw [← hU]; exact hp.Blk.new w9 [.pointer a, .pointer b, .pointer pc] _
  have TR : ∀ j, j < 3 → ∃ p Z, U.cell? ⟨w9.heap.size, j, none⟩ = some (.pointer p) ∧ IsT U (.agg #[.pointer p]) Z ∧ Z.length ≤ 35184372087808 := by
    intro j hj
    have hj' : j = 0 ∨ j = 1 ∨ j = 2 := by omega
    rcases hj' with rfl | rfl | rfl
    · exact ⟨a, X, BC.cell 0, (hX.on K9).on hu, lX⟩
    · exact ⟨b, Y, BC.cell 1, (hY.on K9).on hu, lY⟩
    · exact ⟨pc, M, BC.cell 2, hu9.on hu, lM⟩
  have lc := BC.lt
  replace K := (K.trans (K9.mono K.size)).trans (hu.mono (Nat.le_trans K.size K9.size))
  rw [hU]
  clear hU hu BC hu9 K9 hX hY lX lY lM BA BB JM la lb
  generalize w9.heap.size = gc at *
  replace TR := Lib.hid TR
  go_loopw [11] (fun i W => ∃ j : Nat, i = .int .i64 j ∧ j ≤ 3 ∧ Below U.heap.size U W) (fun i _ => 3 - (intOf i).toNat)
  case atStart => exact ⟨0, rfl, by omega, Below.refl _ _⟩
  case round =>
    obtain ⟨j, rfl, hj, KB⟩ := hrel
    by_cases hlt : j < 3
    · obtain ⟨p, Z, cp, hZ, lZ⟩ := TR.out j hlt
      obtain ⟨N, hN⟩ : ∃ N, Z.length = N := ⟨_, rfl⟩
      rw [hN] at lZ
      have DG := digits_n (hZ.on KB) hN lZ
      have MS := fun W (h : Below U.heap.size U W) => meas_n (hZ.on h) hN
      have FL := field_len N Z
      have kp := (KB.cell (p := ⟨gc, j, none⟩) lc).trans cp
      have lg := Nat.lt_of_lt_of_le lc KB.size
      have CP := fun W (h : Below U.heap.size U W) => (h.cell (p := ⟨gc, j, none⟩) lc).trans cp
      clear hN hZ cp
      go_wp2_with (go_at_call 23; (with_reducible refine DG.mono ?_); clear DG; rintro e wd ⟨⟨v, ds, rfl, hrow, hdg⟩, hd⟩; have KD := KB.trans (hd.mono KB.size); (obtain ⟨av, cv, rfl⟩ := rowN_val hrow))
      replace CP := Lib.hid CP
      have hdg' := Lib.hid hdg
      clear hd kp lg
      obtain ⟨c, hc⟩ : ∃ c, ds.length = c := ⟨_, rfl⟩
      have hz0 : (c = 0 ↔ N = 0) := by rw [← hc, ← hdg.2.2.1]; exact List.length_eq_zero_iff
      have RO := fun m (h : m < c) => round_of hdg (hc ▸ h)
      have PA : psum ds c ≤ N := by rw [← hc]; exact psum_all ds hdg
      have hc64 : c ≤ 64 := by
        by_cases h : c ≤ 64
        · exact h
        · have h5 := Nat.pow_le_pow_right (n := 2) (by omega) (show 64 ≤ ds.length by omega)
          have h6 := hdg.2.1
          omega
      rw [hc] at hrow ⊢
      simp only [hc] at RO
      clear hdg hc
      go_loopw [13, 14, 15] (fun s z i W => ∃ m : Nat, i = .int .i64 m ∧ m ≤ c ∧ s = .int .i64 (psum ds m : Nat) ∧ z = .int .i64 ((2 ^ m : Nat) : Int) ∧ Below wd.heap.size wd W) (fun _ _ i _ => c - (intOf i).toNat)
      case atStart => exact ⟨0, rfl, by omega, rfl, rfl, Below.refl _ _⟩
      case round =>
        obtain ⟨m, rfl, hm, rfl, rfl, KI⟩ := hrel
        by_cases hlm : m < c
        · obtain ⟨x, y, hxy, e1, e2, e3, hcs⟩ := RO m hlm
          have hr2 := hp.row_on hrow KI
          obtain ⟨g, cap, hv, -, hg, hcap, hcell⟩ := rowN_cell hr2 (by omega)
          cases hv
          have d0 := hcell (m * 2) (.int .i64 (x : Int)) (dcells_get ds m 0 _ hxy (by omega))
          have d1 := hcell (m * 2 + 1) (.int .i64 (y : Int)) (dcells_get ds m 1 _ hxy (by omega))
          obtain ⟨s, hs⟩ : ∃ s, psum ds m = s := ⟨_, rfl⟩
          obtain ⟨s', hs'⟩ : ∃ s, psum ds (m + 1) = s := ⟨_, rfl⟩
          have hz2 : 2 ^ (m + 1) = 2 * 2 ^ m := by rw [Nat.pow_succ, Nat.mul_comm]
          rw [hz2] at e3
          obtain ⟨z, hz⟩ : ∃ z, 2 ^ m = z := ⟨_, rfl⟩
          rw [hs, hs', hz] at e1
          rw [hs'] at e2
          rw [hz] at e3
          obtain ⟨t, ht⟩ : ∃ t, z * (x + y) = t := ⟨_, rfl⟩
          have hmul : (z : Int) * ((x : Int) + (y : Int)) = (t : Int) := by rw [← ht]; simp
          rw [ht] at e1
          rw [hs, hz]
          replace hs := Lib.hid hs
          replace hs' := Lib.hid hs'
          replace hz := Lib.hid hz
          replace ht := Lib.hid ht
          replace hz2 := Lib.hid hz2
          clear hcell hr2 hxy
          have hs63 : s' ≤ 35184372087808 := by omega
          have hz63 : 2 * z ≤ 35184372087809 := by omega
          rcases hcs with ⟨h1, rfl, rfl⟩ | ⟨x1, x4, y1, y4⟩
          · subst h1
            have EQ := eq_yes
            obtain rfl : z = t := by simpa using ht.out
            go_wp2_with fail
            go_big_region
            go_wp2_with fail
            exact @fin_of ds m (m + 1) s z z s' N wd wr (Nat.le_refl _) hs'.out e1 hz2.out hz.out KI
          · have X1 : ¬ (x : Int) < 1 := by omega
            have X4 : ¬ (4 : Int) < (x : Int) := by omega
            have Y1 : ¬ (y : Int) < 1 := by omega
            have Y4 : ¬ (4 : Int) < (y : Int) := by omega
            have EQ := eq_no x y y1
            by_cases hl : m + 1 = c
            · subst hl
              go_wp2_with fail
              go_big_region
              go_wp2_with fail
              exact @fin_of ds m (m + 1) s t z s' N wd wr (Nat.le_refl _) hs'.out e1 hz2.out hz.out KI
            · go_wp2_with fail
              go_big_region
              go_wp2_with fail
              exact @fin_of ds m c s t z s' N wd wr hlm hs'.out e1 hz2.out hz.out KI
        · obtain rfl : m = c := by omega
          have kp := CP.out wr (KD.trans (KI.mono KD.size))
          have lg := Nat.lt_of_lt_of_le lc (KD.trans (KI.mono KD.size)).size
          have KE := KD.trans (KI.mono KD.size)
          have PB : ¬ (N : Int) < (psum ds m : Int) := by omega
          have MS1 := MS wr KE
          have MS2 := fun W (h : Below wr.heap.size wr W) => MS W (KE.trans (h.mono KE.size))
          have KP2 := fun W (h : Below wr.heap.size wr W) => CP.out W (KE.trans (h.mono KE.size))
          by_cases hm0 : m = 0
          · have hN0 := hz0.1 hm0
            subst hN0
            subst hm0
            have PZ : psum ds 0 = 0 := by omega
            rw [PZ]
            clear PA PB PZ hz0 RO hdg' hrow
            go_wp2_with (first
              | (go_at_call 17; (with_reducible refine MS1.mono ?_); clear MS1; rintro e wf ⟨rfl, hf⟩; have kp3 := KP2 _ hf; have lg3 := Nat.lt_of_lt_of_le lg hf.size)
              | (go_at_call 17; (with_reducible refine (MS2 _ hf).mono ?_); clear MS2; rintro e wg ⟨rfl, hg⟩))
            exact rend_of hlt ((KE.trans (hf.mono KE.size)).trans (hg.mono (KE.trans (hf.mono KE.size)).size))
          · have hNn : ¬ N = 0 := fun h => hm0 (hz0.2 h)
            have hN0 : ((N : Int) == 0) = false := by simpa using hNn
            have hm1 : ((m : Int) == 0) = false := by simpa using hm0
            clear hNn
            clear PA hz0 RO hdg' hrow hm0
            go_wp2_with (first
              | (go_at_call 17; (with_reducible refine MS1.mono ?_); clear MS1; rintro e wf ⟨rfl, hf⟩; have kp3 := KP2 _ hf; have lg3 := Nat.lt_of_lt_of_le lg hf.size)
              | (go_at_call 17; (with_reducible refine (MS2 _ hf).mono ?_); clear MS2; rintro e wg ⟨rfl, hg⟩))
            exact rend_of hlt ((KE.trans (hf.mono KE.size)).trans (hg.mono (KE.trans (hf.mono KE.size)).size))
    · obtain rfl : j = 3 := by omega
      go_wp2_with fail
      go_ret
      exact ⟨rfl, K.trans (KB.mono K.size)⟩
end Go.Proofs.Yteolbbdokhmjgaa.fingerDigits
