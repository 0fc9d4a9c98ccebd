/- The walk of FingerSplits. -/
import Derived.Test.YteolbbdokhmjgaaFinCutAt
namespace Go.Proofs.Yteolbbdokhmjgaa.fingerSplits
open Go Go.RowKit Go.Proofs.Yteolbbdokhmjgaa.fin Go.Proofs.Yteolbbdokhmjgaa.mono
set_option linter.unusedVariables false

theorem meas_n {u : Value} {l : List Int} {w : World} {n : Nat} (h : IsT w u l) (hn : l.length = n) : Calls Try.prog 17 #[u] w fun e w' => e = .returned (mvOf n l) ∧ Below w.heap.size w w' := hn ▸ measure_any h
theorem ask_n (most : Bool) (n : Int) (bm b : Nat) (W : World) (km : hp.Blk W bm 4 [.bool most]) (kn : hp.Blk W b 3 [.int .i64 n]) (l : List Int) (k : Nat) (hk : l.length = k) (c : Bool) (hc : soFar most n l = c) :
    Calls Try.prog 25 #[mvOf k l, .pointer (some ⟨bm, 0, none⟩), .pointer (some ⟨b, 0, none⟩)] W fun e w' => e = .returned (.bool c) ∧ Below W.heap.size W w' := by
  subst hk hc
  exact askS0 most n bm b l W km.lt (km.cell 0) kn.lt (kn.cell 0)
theorem meas_of (v : Value) (l : List Int) (w : World) (hv : hp.IsInts w w.heap.size v l) (k : Nat) (hk : l.length = k) :
    Calls Try.prog 18 #[v] w fun e w' => e = .returned (mvOf k l) ∧ Below w.heap.size w w' := hk ▸ ref.measureOf_any v l w hv

set_option maxRecDepth 100000 in
set_option maxHeartbeats 16000000 in
attribute [-go_sem] sliced in
theorem walk (v0 : Value) (l0 : List Int) (n : Int) (most : Bool) (w : World) (i0 : hp.IsInts w w.heap.size v0 l0) (hn : (Lit.int .i64 n).wf = true) (bd : l0.length ≤ 17592186043904) :
    Calls Try.prog 6 #[v0, .int .i64 n, .bool most] w fun e w' => e = .returned (.bool true) ∧ Below w.heap.size w w' := by
  obtain ⟨W0, hW0⟩ : ∃ W, (w.alloc (.cells #[.int .i64 n] 3)).alloc (.cells #[.bool most] 4) = W := ⟨_, rfl⟩
  have Bn : hp.Blk W0 w.heap.size 3 [.int .i64 n] := by rw [← hW0]; exact (hp.Blk.new w [.int .i64 n] _).alloc _
  have Bm : hp.Blk W0 (w.heap.size + 1) 4 [.bool most] := by rw [← hW0]; exact hp.Blk.newAt (by simp)
  have K : Below w.heap.size w W0 := by rw [← hW0]; ((repeat' (first | with_reducible exact Below.refl _ _ | with_reducible apply Below.setCell | with_reducible apply below_drewN | with_reducible apply Below.drew | with_reducible apply Below.alloc | with_reducible refine Below.trans ?_ (Below.mono (by assumption) ?_))) <;> (first | (simp; done) | (simp; omega) | omega))
  have O0 := fun W (K : Below w.heap.size w W) => of_any v0 l0 W (i0.on K) (by omega)
  have SPL := fun V u (hu : IsT V u l0) (km : hp.Blk V (w.heap.size + 1) 4 [.bool most]) (kn : hp.Blk V w.heap.size 3 [.int .i64 n]) => tSplit 25 #[.pointer (some ⟨w.heap.size + 1, 0, none⟩), .pointer (some ⟨w.heap.size, 0, none⟩)] 17592186043904 (soFar most n) u l0 V hu bd (by omega) (fun W bq K hq hc => askS most n _ _ bq _ W (km.on K).lt ((km.on K).cell 0) (kn.on K).lt ((kn.on K).cell 0) hq hc)
  have i1 := Lib.hid i0
  obtain ⟨z0, c0', rfl, ⟨-, hcap⟩, -⟩ := i0
  go_enter Try.func6, Try.ntmps6
  go_wp2_with (first
    | (go_at_call 9; (with_reducible refine (fingered_any _).mono ?_); rintro e wa ⟨rfl, hb⟩; (replace Bn := Bn.on hb; replace Bm := Bm.on hb); (replace K := K.trans ((hb).mono K.size); clear hb))
    | (go_at_call 19; (with_reducible refine (O0 _ K).mono ?_); clear O0; rintro e wb ⟨⟨u, rfl, hA⟩, hb⟩; (obtain ⟨pa, rfl⟩ := hA.val); (replace Bn := Bn.on hb; replace Bm := Bm.on hb); (replace K := K.trans ((hb).mono K.size); clear hb); replace hA := hA.on ((Below.refl _ _).alloc (Nat.le_refl _) (.cells #[.pointer pa] 28)); replace Bn := Bn.alloc (.cells #[.pointer pa] 28); replace Bm := Bm.alloc (.cells #[.pointer pa] 28); replace K := K.alloc K.size (.cells #[.pointer pa] 28))
    | (go_at_call 21; (with_reducible refine (SPL _ _ hA Bm Bn).mono ?_); clear SPL; rintro e wc ⟨⟨a, b, X, Y, rfl, hX, hY, hcut⟩, hb⟩; (replace Bn := Bn.on hb; replace Bm := Bm.on hb); (replace K := K.trans ((hb).mono K.size); clear hb)))
  obtain ⟨V, hV⟩ : ∃ V, (wc.alloc (.cells #[.pointer a] 28)).alloc (.cells #[.pointer b] 28) = V := ⟨_, rfl⟩
  have hv : Below wc.heap.size wc V := by rw [← hV]; ((repeat' (first | with_reducible exact Below.refl _ _ | with_reducible apply Below.setCell | with_reducible apply below_drewN | with_reducible apply Below.drew | with_reducible apply Below.alloc | with_reducible refine Below.trans ?_ (Below.mono (by assumption) ?_))) <;> (first | (simp; done) | (simp; omega) | omega))
  have BA : hp.Blk V wc.heap.size 28 [.pointer a] := by rw [← hV]; exact (hp.Blk.new wc [.pointer a] _).alloc _
  have BB : hp.Blk V (wc.heap.size + 1) 28 [.pointer b] := by rw [← hV]; exact hp.Blk.newAt (by simp)
  replace Bn := Bn.on hv
  replace Bm := Bm.on hv
  replace hX := hX.on hv
  replace hY := hY.on hv
  replace K := K.trans (hv.mono K.size)
  rw [hV]
  clear hV hv hA
  generalize wc.heap.size = ga at *
  have la := BA.lt
  have lb := BB.lt
  obtain ⟨oXY, -⟩ := id hcut
  have lXY := congrArg List.length oXY
  rw [List.length_append] at lXY
  have IX := fun W u (h : IsT W u X) => ints_any u X W h (by omega)
  have IY := fun W u (h : IsT W u Y) => ints_any u Y W h (by omega)
  have CC := fun W u v (h : hp.IsInts W W.heap.size u X) (h' : hp.IsInts W W.heap.size v Y) => same.cat_eq oXY h h' (by omega)
  have iV := i1.out.on K
  replace oXY := Lib.hid oXY
  apply rel.region (C := fun w' => Below V.heap.size V w') (X := fun w w' => Below w.heap.size w w') (by kernel_rfl) (by kernel_rfl) (by kernel_rfl) ((Below.refl _ _).drew)
  ((apply rel.walk_val; (focus (intro wq hq hf; (have d0 := (((BA).below hq (BA).lt)).cell 0; simp only [List.getElem?_cons_zero] at d0); go_wp2; refine ⟨hq, Below.refl _ _, ?_, rfl⟩; (show rel.slot _ _ = _; simp only [rel.slot_lit, List.getD_cons_succ, List.getD_cons_zero]; (first | done | exact rfl)))); (simp only [rel.put_lit, List.set_cons_succ, List.set_cons_zero])))
  (apply rel.walk_rel (fun u w' => hp.IsInts w' w'.heap.size u (X)) ⟨_, rfl⟩ (fun u w1 w2 h1 h2 => h2.on h1); (focus (intro wq hq hf; go_wp2_with (go_at_call 16; refine (IX _ _ (hX.on hq)).mono ?_; rintro e w'' ⟨⟨u, rfl, hu⟩, hb⟩); refine ⟨hq.trans (hb.mono hq.size), hb, ?_, rfl⟩; (show hp.IsInts _ _ (rel.slot _ _) _; simp only [rel.slot_lit, List.getD_cons_succ, List.getD_cons_zero]; exact hu))); (intro u wu _ hu; obtain ⟨pu, cu, rfl, -⟩ := hu; (simp only [rel.put_lit, List.set_cons_succ, List.set_cons_zero])))
  ((apply rel.walk_val; (focus (intro wq hq hf; (have d0 := (((BB).below hq (BB).lt)).cell 0; simp only [List.getElem?_cons_zero] at d0); go_wp2; refine ⟨hq, Below.refl _ _, ?_, rfl⟩; (show rel.slot _ _ = _; simp only [rel.slot_lit, List.getD_cons_succ, List.getD_cons_zero]; (first | done | exact rfl)))); (simp only [rel.put_lit, List.set_cons_succ, List.set_cons_zero])))
  (apply rel.walk_rel (fun u w' => hp.IsInts w' w'.heap.size u (Y)) ⟨_, rfl⟩ (fun u w1 w2 h1 h2 => h2.on h1); (focus (intro wq hq hf; go_wp2_with (go_at_call 16; refine (IY _ _ (hY.on hq)).mono ?_; rintro e w'' ⟨⟨u, rfl, hu⟩, hb⟩); refine ⟨hq.trans (hb.mono hq.size), hb, ?_, rfl⟩; (show hp.IsInts _ _ (rel.slot _ _) _; simp only [rel.slot_lit, List.getD_cons_succ, List.getD_cons_zero]; exact hu))); (intro u wu _ hu; obtain ⟨pu_A, cu_A, rfl, -⟩ := hu; (simp only [rel.put_lit, List.set_cons_succ, List.set_cons_zero])))
  (apply rel.walk_rel (fun u w' => hp.IsInts w' w'.heap.size u (l0)) ⟨_, rfl⟩ (fun u w1 w2 h1 h2 => h2.on h1); (focus (intro wq hq hf; go_wp2_with (go_at_call 12; refine (CC _ _ _ (hf.get 1 rfl rfl) (hf.get 0 rfl rfl)).mono ?_; rintro e w'' ⟨⟨u, rfl, hu⟩, hb⟩); refine ⟨hq.trans (hb.mono hq.size), hb, ?_, rfl⟩; (show hp.IsInts _ _ (rel.slot _ _) _; simp only [rel.slot_lit, List.getD_cons_succ, List.getD_cons_zero]; exact hu))); (intro u wu _ hu; obtain ⟨pu_B, cu_B, rfl, -⟩ := hu; (simp only [rel.put_lit, List.set_cons_succ, List.set_cons_zero])))
  (apply rel.walk_val; (focus (intro wq hq hf; go_wp2; refine ⟨hq, Below.refl _ _, ?_, rfl⟩; (show rel.slot _ _ = _; simp only [rel.slot_lit, List.getD_cons_succ, List.getD_cons_zero]; (first | done | exact rfl)))); (simp only [rel.put_lit, List.set_cons_succ, List.set_cons_zero]))
  (apply rel.walk_val; (focus (intro wq hq hf; go_wp2_with (go_at_call 15; refine (same.ints_eq rfl (hf.get 0 rfl rfl) (iV.on hq)).mono ?_; rintro e w'' ⟨rfl, hb⟩); refine ⟨hq.trans (hb.mono hq.size), hb, ?_, rfl⟩; (show rel.slot _ _ = _; simp only [rel.slot_lit, List.getD_cons_succ, List.getD_cons_zero]; (first | done | exact rfl)))); (simp only [rel.put_lit, List.set_cons_succ, List.set_cons_zero]))
  (apply rel.walk_val; (focus (intro wq hq hf; go_wp2; refine ⟨hq, Below.refl _ _, ?_, rfl⟩; (show rel.slot _ _ = _; simp only [rel.slot_lit, List.getD_cons_succ, List.getD_cons_zero]; (first | done | exact rfl)))); (simp only [rel.put_lit, List.set_cons_succ, List.set_cons_zero]))
  refine rel.walk_nil ?_
  intro w9 K9' hF
  clear hF
  replace Bn := Bn.on K9'
  replace Bm := Bm.on K9'
  replace BA := BA.on K9'
  replace BB := BB.on K9'
  replace hX := hX.on K9'
  replace hY := hY.on K9'
  replace K := K.trans (K9'.mono K.size)
  clear K9' IX IY CC iV la lb oXY lXY
  have iZ := i1.out.on K
  clear i1
  have MO := fun (V : World) (j : Nat) (hj : j + 1 ≤ l0.length) (h : Below w9.heap.size w9 V) => meas_of (Go.sliced z0 0 (j + 1) c0' 1) (l0.take (j + 1)) V ((iZ.on h).sliced (i := 0) (j := j + 1) (by omega) hj) (j + 1) (by simp; omega)
  have QO := fun (V : World) (h : Below w9.heap.size w9 V) (l : List Int) (k : Nat) (hk : l.length = k) (c : Bool) (hc : soFar most n l = c) => ask_n most n _ _ V (Bm.on h) (Bn.on h) l k hk c hc
  have K9 := Below.refl w9.heap.size w9
  go_wp2_with fail
  go_loopw [13] (fun i wr => ∃ j : Nat, i = .int .i64 j ∧ j ≤ l0.length ∧ Below w9.heap.size w9 wr ∧ Hid (∀ x, x < j → soFar most n (l0.take (x + 1)) = false)) (fun i _ => l0.length - (intOf i).toNat)
  case atStart => exact ⟨0, rfl, by omega, Below.refl _ _, fun x hx => by omega⟩
  case round =>
    clear K9
    obtain ⟨j, rfl, hj, K9, hno⟩ := hrel
    by_cases hlt : j < l0.length
    · have M1 := MO wr j (by omega) K9
      obtain ⟨T, hT⟩ : ∃ T, l0.take (j + 1) = T := ⟨_, rfl⟩
      have nT : T.length = j + 1 := by rw [← hT]; simp; omega
      simp only [List.drop_zero, hT] at M1
      obtain ⟨c, hc⟩ : ∃ c, soFar most n T = c := ⟨_, rfl⟩
      have Q1 := fun (V : World) (h : Below w9.heap.size w9 V) => QO V h T (j + 1) nT c hc
      clear MO nT
      have hc' := Lib.hid hc
      have hjc : j + 1 ≤ c0' := by omega
      cases c
      · clear hc
        go_wp2_with (first
          | (go_at_call 18; (with_reducible refine M1.mono ?_); clear M1; rintro e wd ⟨rfl, hd⟩; have K8 := K9.trans (hd.mono K9.size); clear hd)
          | (go_at_call 25; (with_reducible refine (Q1 _ K8).mono ?_); clear Q1; rintro e we ⟨rfl, hd⟩; have K7 := K8.trans (hd.mono K8.size); clear hd K8))
        go_roundw
        case rel =>
          refine ⟨j + 1, by go_num, by omega, K7, fun x hx => ?_⟩
          by_cases hxj : x = j
          · rw [hxj, hT]; exact hc'.out
          · exact hno.out x (by omega)
        case measure => simp [intOf]; omega
      · clear hc
        go_wp2_with (first
          | (go_at_call 18; (with_reducible refine M1.mono ?_); clear M1; rintro e wd ⟨rfl, hd⟩; have K8 := K9.trans (hd.mono K9.size); clear hd)
          | (go_at_call 25; (with_reducible refine (Q1 _ K8).mono ?_); clear Q1; rintro e we ⟨rfl, hd⟩; have K7 := K8.trans (hd.mono K8.size); clear hd K8))
        have K1 := K7
        cases c0 : soFar most n []
        · have lz := cut_at hcut (by omega) hno.out (fun _ => by rw [hT]; exact hc'.out)
          rw [if_neg (by rw [c0]; simp)] at lz
          obtain ⟨lX, lY⟩ := lz
          have Bn2 := Bn.on K1
          have Bm2 := Bm.on K1
          have BA2 := BA.on K1
          have BB2 := BB.on K1
          have hX2 := hX.on K1
          have hY2 := hY.on K1
          have a2 := BA2.cell 0
          have b2 := BB2.cell 0
          have la2 := BA2.lt
          have lb2 := BB2.lt
          simp only [List.getElem?_cons_zero] at a2 b2
          have Kz := K.trans (K1.mono K.size)
          have MN := fun V => meas_of (.slice none 0 0) [] V (hp.IsInts.nil _ _) 0 rfl
          have QN := fun V (km : hp.Blk V (w.heap.size + 1) 4 [.bool most]) (kn : hp.Blk V w.heap.size 3 [.int .i64 n]) => ask_n most n _ _ V km kn [] 0 rfl false c0
          obtain ⟨kk, hkk⟩ : ∃ kk, l0.length - j = kk := ⟨_, rfl⟩
          rw [hkk] at lY
          have hm0 : (l0.length : Int) - ((j : Nat) : Int) = (kk : Int) := by omega
          try rw [Int.sub_self] at hm0
          replace hkk := Lib.hid hkk
          have MX := fun V (h : IsT V (.agg #[.pointer a]) X) => meas_n h lX
          have MY := fun V (h : IsT V (.agg #[.pointer b]) Y) => meas_n h lY
          have hfX := field_len (j) X
          have hfY := field_len kk Y
          clear lX lY hcut hno K1 hX hY BA BB Bn Bm QO
          try clear MO
          try clear M1
          go_wp2_with (first
            | (go_at_call 18; (with_reducible refine (MN _).mono ?_); clear MN; rintro e wd ⟨rfl, hd⟩; replace Bn2 := Bn2.on hd; replace Bm2 := Bm2.on hd; replace BA2 := BA2.on hd; replace BB2 := BB2.on hd; replace hX2 := hX2.on hd; replace hY2 := hY2.on hd; replace Kz := Kz.trans (hd.mono Kz.size); clear hd)
            | (go_at_call 25; (with_reducible refine (QN _ Bm2 Bn2).mono ?_); clear QN; rintro e we ⟨rfl, hd⟩; replace BA2 := BA2.on hd; replace BB2 := BB2.on hd; replace hX2 := hX2.on hd; replace hY2 := hY2.on hd; replace Kz := Kz.trans (hd.mono Kz.size); have a3 := BA2.cell 0; have la3 := BA2.lt; simp only [List.getElem?_cons_zero] at a3; clear hd)
            | (go_at_call 17; (with_reducible refine (MX _ hX2).mono ?_); clear MX; rintro e wf ⟨rfl, hd⟩; replace BB2 := BB2.on hd; replace hY2 := hY2.on hd; replace Kz := Kz.trans (hd.mono Kz.size); have b4 := BB2.cell 0; have lb4 := BB2.lt; simp only [List.getElem?_cons_zero] at b4; clear hd)
            | (go_at_call 17; (with_reducible refine (MY _ hY2).mono ?_); clear MY; rintro e wg ⟨rfl, hd⟩; replace Kz := Kz.trans (hd.mono Kz.size); clear hd))
          go_ret
          exact ⟨by have := hkk.out; simp <;> omega, Kz⟩
        · have lz := cut_at hcut (by omega) hno.out (fun _ => by rw [hT]; exact hc'.out)
          rw [if_pos c0] at lz
          obtain ⟨lX, lY⟩ := lz
          have Bn2 := Bn.on K1
          have Bm2 := Bm.on K1
          have BA2 := BA.on K1
          have BB2 := BB.on K1
          have hX2 := hX.on K1
          have hY2 := hY.on K1
          have a2 := BA2.cell 0
          have b2 := BB2.cell 0
          have la2 := BA2.lt
          have lb2 := BB2.lt
          simp only [List.getElem?_cons_zero] at a2 b2
          have Kz := K.trans (K1.mono K.size)
          have MN := fun V => meas_of (.slice none 0 0) [] V (hp.IsInts.nil _ _) 0 rfl
          have QN := fun V (km : hp.Blk V (w.heap.size + 1) 4 [.bool most]) (kn : hp.Blk V w.heap.size 3 [.int .i64 n]) => ask_n most n _ _ V km kn [] 0 rfl true c0
          obtain ⟨kk, hkk⟩ : ∃ kk, l0.length - 0 = kk := ⟨_, rfl⟩
          rw [hkk] at lY
          have hm0 : (l0.length : Int) - ((0 : Nat) : Int) = (kk : Int) := by omega
          try rw [Int.sub_self] at hm0
          replace hkk := Lib.hid hkk
          have MX := fun V (h : IsT V (.agg #[.pointer a]) X) => meas_n h lX
          have MY := fun V (h : IsT V (.agg #[.pointer b]) Y) => meas_n h lY
          have hfX := field_len (0) X
          have hfY := field_len kk Y
          clear lX lY hcut hno K1 hX hY BA BB Bn Bm QO
          try clear MO
          try clear M1
          go_wp2_with (first
            | (go_at_call 18; (with_reducible refine (MN _).mono ?_); clear MN; rintro e wd ⟨rfl, hd⟩; replace Bn2 := Bn2.on hd; replace Bm2 := Bm2.on hd; replace BA2 := BA2.on hd; replace BB2 := BB2.on hd; replace hX2 := hX2.on hd; replace hY2 := hY2.on hd; replace Kz := Kz.trans (hd.mono Kz.size); clear hd)
            | (go_at_call 25; (with_reducible refine (QN _ Bm2 Bn2).mono ?_); clear QN; rintro e we ⟨rfl, hd⟩; replace BA2 := BA2.on hd; replace BB2 := BB2.on hd; replace hX2 := hX2.on hd; replace hY2 := hY2.on hd; replace Kz := Kz.trans (hd.mono Kz.size); have a3 := BA2.cell 0; have la3 := BA2.lt; simp only [List.getElem?_cons_zero] at a3; clear hd)
            | (go_at_call 17; (with_reducible refine (MX _ hX2).mono ?_); clear MX; rintro e wf ⟨rfl, hd⟩; replace BB2 := BB2.on hd; replace hY2 := hY2.on hd; replace Kz := Kz.trans (hd.mono Kz.size); have b4 := BB2.cell 0; have lb4 := BB2.lt; simp only [List.getElem?_cons_zero] at b4; clear hd)
            | (go_at_call 17; (with_reducible refine (MY _ hY2).mono ?_); clear MY; rintro e wg ⟨rfl, hd⟩; replace Kz := Kz.trans (hd.mono Kz.size); clear hd))
          go_ret
          exact ⟨by have := hkk.out; simp <;> omega, Kz⟩
    · obtain rfl : j = l0.length := by omega
      go_wp2_with fail
      focus
        have K1 := K9
        cases c0 : soFar most n []
        · have lz := cut_at hcut (by omega) hno.out (fun h => absurd h (Nat.lt_irrefl _))
          rw [if_neg (by rw [c0]; simp)] at lz
          obtain ⟨lX, lY⟩ := lz
          have Bn2 := Bn.on K1
          have Bm2 := Bm.on K1
          have BA2 := BA.on K1
          have BB2 := BB.on K1
          have hX2 := hX.on K1
          have hY2 := hY.on K1
          have a2 := BA2.cell 0
          have b2 := BB2.cell 0
          have la2 := BA2.lt
          have lb2 := BB2.lt
          simp only [List.getElem?_cons_zero] at a2 b2
          have Kz := K.trans (K1.mono K.size)
          have MN := fun V => meas_of (.slice none 0 0) [] V (hp.IsInts.nil _ _) 0 rfl
          have QN := fun V (km : hp.Blk V (w.heap.size + 1) 4 [.bool most]) (kn : hp.Blk V w.heap.size 3 [.int .i64 n]) => ask_n most n _ _ V km kn [] 0 rfl false c0
          obtain ⟨kk, hkk⟩ : ∃ kk, l0.length - l0.length = kk := ⟨_, rfl⟩
          rw [hkk] at lY
          have hm0 : (l0.length : Int) - ((l0.length : Nat) : Int) = (kk : Int) := by omega
          try rw [Int.sub_self] at hm0
          replace hkk := Lib.hid hkk
          have MX := fun V (h : IsT V (.agg #[.pointer a]) X) => meas_n h lX
          have MY := fun V (h : IsT V (.agg #[.pointer b]) Y) => meas_n h lY
          have hfX := field_len (l0.length) X
          have hfY := field_len kk Y
          clear lX lY hcut hno K1 hX hY BA BB Bn Bm QO
          try clear MO
          try clear M1
          go_wp2_with (first
            | (go_at_call 18; (with_reducible refine (MN _).mono ?_); clear MN; rintro e wd ⟨rfl, hd⟩; replace Bn2 := Bn2.on hd; replace Bm2 := Bm2.on hd; replace BA2 := BA2.on hd; replace BB2 := BB2.on hd; replace hX2 := hX2.on hd; replace hY2 := hY2.on hd; replace Kz := Kz.trans (hd.mono Kz.size); clear hd)
            | (go_at_call 25; (with_reducible refine (QN _ Bm2 Bn2).mono ?_); clear QN; rintro e we ⟨rfl, hd⟩; replace BA2 := BA2.on hd; replace BB2 := BB2.on hd; replace hX2 := hX2.on hd; replace hY2 := hY2.on hd; replace Kz := Kz.trans (hd.mono Kz.size); have a3 := BA2.cell 0; have la3 := BA2.lt; simp only [List.getElem?_cons_zero] at a3; clear hd)
            | (go_at_call 17; (with_reducible refine (MX _ hX2).mono ?_); clear MX; rintro e wf ⟨rfl, hd⟩; replace BB2 := BB2.on hd; replace hY2 := hY2.on hd; replace Kz := Kz.trans (hd.mono Kz.size); have b4 := BB2.cell 0; have lb4 := BB2.lt; simp only [List.getElem?_cons_zero] at b4; clear hd)
            | (go_at_call 17; (with_reducible refine (MY _ hY2).mono ?_); clear MY; rintro e wg ⟨rfl, hd⟩; replace Kz := Kz.trans (hd.mono Kz.size); clear hd))
          go_ret
          exact ⟨by have := hkk.out; simp <;> omega, Kz⟩
        · have lz := cut_at hcut (by omega) hno.out (fun h => absurd h (Nat.lt_irrefl _))
          rw [if_pos c0] at lz
          obtain ⟨lX, lY⟩ := lz
          have Bn2 := Bn.on K1
          have Bm2 := Bm.on K1
          have BA2 := BA.on K1
          have BB2 := BB.on K1
          have hX2 := hX.on K1
          have hY2 := hY.on K1
          have a2 := BA2.cell 0
          have b2 := BB2.cell 0
          have la2 := BA2.lt
          have lb2 := BB2.lt
          simp only [List.getElem?_cons_zero] at a2 b2
          have Kz := K.trans (K1.mono K.size)
          have MN := fun V => meas_of (.slice none 0 0) [] V (hp.IsInts.nil _ _) 0 rfl
          have QN := fun V (km : hp.Blk V (w.heap.size + 1) 4 [.bool most]) (kn : hp.Blk V w.heap.size 3 [.int .i64 n]) => ask_n most n _ _ V km kn [] 0 rfl true c0
          obtain ⟨kk, hkk⟩ : ∃ kk, l0.length - 0 = kk := ⟨_, rfl⟩
          rw [hkk] at lY
          have hm0 : (l0.length : Int) - ((0 : Nat) : Int) = (kk : Int) := by omega
          try rw [Int.sub_self] at hm0
          replace hkk := Lib.hid hkk
          have MX := fun V (h : IsT V (.agg #[.pointer a]) X) => meas_n h lX
          have MY := fun V (h : IsT V (.agg #[.pointer b]) Y) => meas_n h lY
          have hfX := field_len (0) X
          have hfY := field_len kk Y
          clear lX lY hcut hno K1 hX hY BA BB Bn Bm QO
          try clear MO
          try clear M1
          go_wp2_with (first
            | (go_at_call 18; (with_reducible refine (MN _).mono ?_); clear MN; rintro e wd ⟨rfl, hd⟩; replace Bn2 := Bn2.on hd; replace Bm2 := Bm2.on hd; replace BA2 := BA2.on hd; replace BB2 := BB2.on hd; replace hX2 := hX2.on hd; replace hY2 := hY2.on hd; replace Kz := Kz.trans (hd.mono Kz.size); clear hd)
            | (go_at_call 25; (with_reducible refine (QN _ Bm2 Bn2).mono ?_); clear QN; rintro e we ⟨rfl, hd⟩; replace BA2 := BA2.on hd; replace BB2 := BB2.on hd; replace hX2 := hX2.on hd; replace hY2 := hY2.on hd; replace Kz := Kz.trans (hd.mono Kz.size); have a3 := BA2.cell 0; have la3 := BA2.lt; simp only [List.getElem?_cons_zero] at a3; clear hd)
            | (go_at_call 17; (with_reducible refine (MX _ hX2).mono ?_); clear MX; rintro e wf ⟨rfl, hd⟩; replace BB2 := BB2.on hd; replace hY2 := hY2.on hd; replace Kz := Kz.trans (hd.mono Kz.size); have b4 := BB2.cell 0; have lb4 := BB2.lt; simp only [List.getElem?_cons_zero] at b4; clear hd)
            | (go_at_call 17; (with_reducible refine (MY _ hY2).mono ?_); clear MY; rintro e wg ⟨rfl, hd⟩; replace Kz := Kz.trans (hd.mono Kz.size); clear hd))
          go_ret
          exact ⟨by have := hkk.out; simp <;> omega, Kz⟩
end Go.Proofs.Yteolbbdokhmjgaa.fingerSplits
