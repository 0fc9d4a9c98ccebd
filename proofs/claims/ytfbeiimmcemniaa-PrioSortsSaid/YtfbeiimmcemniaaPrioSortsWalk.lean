/- The walk of PrioSorts. -/
import Derived.Test.YtfbeiimmcemniaaPriWalks
namespace Go.Proofs.Ytfbeiimmcemniaa.prioSorts
open Go Go.RowKit Go.Proofs.Ytfbeiimmcemniaa.rws Go.Proofs.Ytfbeiimmcemniaa.pri
set_option linter.unusedVariables false

/-- the numbers with their places -/
def num (l : List Int) (k : Nat) : List (Int × Int) := (List.range k).map fun j => (l.getD j 0, (j : Int))
theorem num_len (l : List Int) (k : Nat) : (num l k).length = k := by simp [num]
theorem num_succ (l : List Int) (k : Nat) : num l (k + 1) = num l k ++ [(l.getD k 0, (k : Int))] := by simp [num, List.range_succ]
theorem wf_nat (k : Nat) (h : k ≤ 17592186044416) : (Lit.int .i64 (k : Int)).wf = true := by
  simp only [Lit.wf, IntKind.min, IntKind.max, IntKind.signed, IntKind.bits, Bool.and_eq_true, decide_eq_true_eq]
  simp
  omega

/-- items of l with their places, in order -/
def Qs (l : List Int) (n : Nat) (Q : List (Int × Int)) : Prop := (∀ y ∈ Q, ∃ i : Nat, i < n ∧ y = (l.getD i 0, (i : Int))) ∧ Q.Pairwise (fun a b => a.2 < b.2)
theorem Qs.num (l : List Int) (n : Nat) : Qs l n (num l n) := by
  refine ⟨fun y hy => ?_, ?_⟩
  · obtain ⟨i, hi, rfl⟩ := List.mem_map.1 hy
    exact ⟨i, by simpa using hi, rfl⟩
  · refine List.pairwise_map.2 ?_
    exact List.pairwise_lt_range.imp fun h => by simpa using h
/-- all come behind this one -/
def Aft (r v : Int) (Q : List (Int × Int)) : Prop := ∀ y ∈ Q, y.1 < r ∨ (y.1 = r ∧ v < y.2)
theorem Qs.pop {l : List Int} {n : Nat} {X Z Q : List (Int × Int)} {x : Int × Int} (h : Qs l n Q) (e : X ++ x :: Z = Q) (hT : Topped X x Z) : Qs l n (X ++ Z) ∧ Aft x.1 x.2 (X ++ Z) ∧ ∃ i : Nat, i < n ∧ x = (l.getD i 0, (i : Int)) := by
  subst e
  obtain ⟨h1, h2⟩ := h
  have hsub : (X ++ Z).Sublist (X ++ x :: Z) := List.Sublist.append (List.Sublist.refl _) (List.sublist_cons_self _ _)
  refine ⟨⟨fun y hy => h1 y (hsub.mem hy), h2.sublist hsub⟩, fun y hy => ?_, h1 x (by simp)⟩
  rcases List.mem_append.1 hy with hy | hy
  · exact .inl (hT.1 y hy)
  · have h3 := hT.2 y hy
    have h4 : x.2 < y.2 := (List.pairwise_cons.1 (List.pairwise_append.1 h2).2.1).1 y hy
    by_cases h5 : y.1 = x.1
    · exact .inr ⟨h5, h4⟩
    · exact .inl (by omega)

set_option maxRecDepth 100000 in
set_option maxHeartbeats 8000000 in
theorem walk (v0 : Value) (l0 : List Int) (w : World) (i0 : hp.IsInts w w.heap.size v0 l0) (bd0 : l0.length ≤ 17592186043904) :
    Calls Try.prog 4 #[v0] w fun e w' => e = .returned (.bool true) ∧ Below w.heap.size w w' := by
  have hwf0 := i0.wf
  obtain ⟨az, cz, rfl, -, -, -, hcz⟩ := i0
  obtain ⟨n, hn⟩ : ∃ n, l0.length = n := ⟨_, rfl⟩
  rw [hn] at hcz bd0 ⊢
  have hwx : ∀ k, k < n → WfP (l0.getD k 0, (k : Int)) := fun k hk => ⟨hwf0 _ (by simp [show k < l0.length by omega]), wf_nat k (by omega)⟩
  go_enter Try.func4, Try.ntmps4
  go_wp2_with (go_at_call 7; (with_reducible refine (ranked_any _).mono ?_); rintro e wa ⟨rfl, Ka⟩)
  have hBb := hp.Blk.new wa [.pointer none] 29
  have hbb : Below w.heap.size w (wa.alloc (.cells #[.pointer none] 29)) := Ka.alloc Ka.size _
  have hwa := Ka.size
  go_loopw [5] (fun i wr => ∃ (k : Nat) (p : Option Addr), i = .int .i64 k ∧ k ≤ n ∧ Below w.heap.size w wr ∧ hp.Blk wr wa.heap.size 29 [.pointer p] ∧ IsT wr (.agg #[.pointer p]) (num l0 k)) (fun i _ => n - (intOf i).toNat)
  case atStart => exact ⟨0, none, rfl, by omega, hbb, hBb, IsT.nil _⟩
  case round =>
    clear hbb hBb Ka
    obtain ⟨k, p, rfl, hk, hb, hB, hT⟩ := hrel
    by_cases hlt : k < n
    · obtain ⟨b, off, rfl, hb0, hcell⟩ := hcz (by omega)
      have kp := (hb.cell (p := ⟨b, off + k, none⟩) hb0).trans (hcell k hlt)
      have hbw : b < wr.heap.size := by have := hb.size; omega
      have hw := hwx k hlt
      have s1 := num_succ l0 k
      generalize l0.getD k 0 = y at *
      obtain ⟨L, hL⟩ : ∃ L, num l0 (k + 1) = L := ⟨_, rfl⟩
      have hLl : L.length = k + 1 := by rw [← hL, num_len]
      rw [hL] at s1
      have H := fun V (K : Below wr.heap.size wr V) => push_any (y, (k : Int)) L (hT.on K) hw s1.symm (by omega)
      simp only at H
      replace hL := Lib.hid hL
      clear s1 hcell hcz hT hwx hw hLl
      go_wp2_with fail
      apply rel.region_tail (C := fun w' => Below wr.heap.size wr w') (X := fun w w' => Below w.heap.size w w') 8 (by kernel_rfl) (by kernel_rfl) (by kernel_rfl) (by kernel_rfl) ((Below.refl _ _).drew)
      ((apply rel.walk_val; (focus (intro wq hq hf; (have d0 := (((hB).below hq (hB).lt)).cell 0; simp only [List.getElem?_cons_zero] at d0); go_wp2; refine ⟨hq, Below.refl _ _, ?_, rfl⟩; (show rel.slot _ _ = _; simp only [rel.slot_lit, List.getD_cons_succ, List.getD_cons_zero]; (first | done | exact rfl)))); (simp only [rel.put_lit, List.set_cons_succ, List.set_cons_zero])))
      (apply rel.walk_val; (focus (intro wq hq hf; go_wp2; refine ⟨hq, Below.refl _ _, ?_, rfl⟩; (show rel.slot _ _ = _; simp only [rel.slot_lit, List.getD_cons_succ, List.getD_cons_zero]; (first | done | exact rfl)))); (simp only [rel.put_lit, List.set_cons_succ, List.set_cons_zero]))
      (apply rel.walk_val; (focus (intro wq hq hf; go_wp2; refine ⟨hq, Below.refl _ _, ?_, rfl⟩; (show rel.slot _ _ = _; simp only [rel.slot_lit, List.getD_cons_succ, List.getD_cons_zero]; (first | done | exact rfl)))); (simp only [rel.put_lit, List.set_cons_succ, List.set_cons_zero]))
      (apply rel.walk_val; (focus (intro wq hq hf; go_wp2; refine ⟨hq, Below.refl _ _, ?_, rfl⟩; (show rel.slot _ _ = _; simp only [rel.slot_lit, List.getD_cons_succ, List.getD_cons_zero]; (first | done | exact rfl)))); (simp only [rel.put_lit, List.set_cons_succ, List.set_cons_zero]))
      ((apply rel.walk_val; (focus (intro wq hq hf; (have d0 := (hq.cell (p := ⟨b, off + k, none⟩) hbw).trans kp); go_wp2; refine ⟨hq, Below.refl _ _, ?_, rfl⟩; (show rel.slot _ _ = _; simp only [rel.slot_lit, List.getD_cons_succ, List.getD_cons_zero]; (first | done | exact rfl)))); (simp only [rel.put_lit, List.set_cons_succ, List.set_cons_zero])))
      (apply rel.walk_val; (focus (intro wq hq hf; go_wp2; refine ⟨hq, Below.refl _ _, ?_, rfl⟩; (show rel.slot _ _ = _; simp only [rel.slot_lit, List.getD_cons_succ, List.getD_cons_zero]; (first | done | exact rfl)))); (simp only [rel.put_lit, List.set_cons_succ, List.set_cons_zero]))
      (apply rel.walk_val; (focus (intro wq hq hf; go_wp2; refine ⟨hq, Below.refl _ _, ?_, rfl⟩; (show rel.slot _ _ = _; simp only [rel.slot_lit, List.getD_cons_succ, List.getD_cons_zero]; (first | done | exact rfl)))); (simp only [rel.put_lit, List.set_cons_succ, List.set_cons_zero]))
      (apply rel.walk_rel (fun u w' => pri.IsT w' u (L)) ⟨_, rfl⟩ (fun u w1 w2 h1 h2 => h2.on h1); (focus (intro wq hq hf; go_wp2_with (go_at_call 8; with_reducible refine (H _ hq).mono ?_; rintro e w'' ⟨⟨u, rfl, hu⟩, hb⟩); refine ⟨hq.trans (hb.mono hq.size), hb, ?_, rfl⟩; (show pri.IsT _ (rel.slot _ _) _; simp only [rel.slot_lit, List.getD_cons_succ, List.getD_cons_zero]; exact hu))); (intro u wu _ hu; obtain ⟨q, rfl, -⟩ := hu; (simp only [rel.put_lit, List.set_cons_succ, List.set_cons_zero])))
      refine rel.walk_nil ?_
      intro w9 K9 hF
      have hu : IsT w9 (.agg #[.pointer q]) L := hF _ (List.mem_cons_self ..)
      clear hF H
      have hB9 := hB.on K9
      have d0 := hB9.cell 0
      have df := hB9.free
      simp only [List.getElem?_cons_zero] at d0
      simp only [List.drop_succ_cons, List.drop_zero]
      go_wp2_with fail
      go_roundw
      case rel => exact ⟨k + 1, q, by go_num, by omega, (hb.trans (K9.mono hb.size)).setCell (p := ⟨wa.heap.size, 0, none⟩) (by simpa using hwa) _, hB9.set 0 _, by rw [hL.out]; exact hu.keep (keep_queue hB9 _ _)⟩
      case measure => simp [intOf]; omega
    · obtain rfl : k = n := by omega
      clear hlt hk hwx
      have hQs := Qs.num l0 k
      have hQl := num_len l0 k
      obtain ⟨A, hA⟩ : ∃ A, num l0 k = A := ⟨_, rfl⟩
      rw [hA] at hT hQs hQl
      clear hA
      have hv1 : Below wr.heap.size wr (wr.alloc (.cells #[.int .i64 0, .int .i64 0] 32)) := by ((repeat' (first | with_reducible exact Below.refl _ _ | with_reducible apply Below.setCell | with_reducible apply below_drewN | with_reducible apply Below.drew | with_reducible apply Below.alloc | with_reducible refine Below.trans ?_ (Below.mono (by assumption) ?_))) <;> (first | (simp; done) | (simp; omega) | omega))
      have hB1 := hB.on hv1
      have hT1 := hT.on hv1
      have hb1 := hb.trans (hv1.mono hb.size)
      have hX1 := hp.Blk.new wr [.int .i64 0, .int .i64 0] 32
      have hwr := hb.size
      have hlw := hB.lt
      clear hB hT hb hv1
      go_wp2_with fail
      go_loopw [7] (fun i W => ∃ (j : Nat) (p : Option Addr) (r v : Int) (Q : List (Int × Int)), i = .int .i64 j ∧ j ≤ k ∧ Below w.heap.size w W ∧ hp.Blk W wa.heap.size 29 [.pointer p] ∧ hp.Blk W wr.heap.size 32 [.int .i64 r, .int .i64 v] ∧ IsT W (.agg #[.pointer p]) Q ∧ Hid (Qs l0 k Q) ∧ Hid (Q.length = k - j) ∧ (0 < j → Aft r v Q)) (fun i _ => k - (intOf i).toNat)
      case atStart => exact ⟨0, p, 0, 0, A, rfl, by omega, hb1, hB1, hX1, hT1, hQs, hQl, by omega⟩
      case round =>
        clear hb1 hB1 hX1 hT1 hQs hQl
        rename World => W
        obtain ⟨j, p, r, v, Q, rfl, hj, hb, hB, hX, hT, hQs, hQl, hAf⟩ := hrel
        by_cases hlt : j < k
        · have hQn : Q ≠ [] := by rintro rfl; have := hQl.out; simp at this; omega
          obtain ⟨X, x, Z, e, hTp⟩ := Topped.exists hQn
          obtain ⟨q1, q2, i, hi, rfl⟩ := hQs.out.pop e.symm hTp
          have P := pop_any W hT (.inl ⟨rfl, e.symm, hTp⟩) (by rw [hQl.out]; omega) (X ++ Z) rfl
          have hxQ : 0 < j → l0.getD i 0 < r ∨ (l0.getD i 0 = r ∧ v < (i : Int)) := fun h => hAf h (l0.getD i 0, (i : Int)) (by rw [e]; simp)
          have hTl : (X ++ Z).length = k - (j + 1) := by have := hQl.out; rw [e] at this; simp at this ⊢; omega
          obtain ⟨b, off, rfl, hb0, hcell⟩ := hcz (by omega)
          have kp0 := hcell i hi
          generalize l0.getD i 0 = y at *
          simp only at P q2
          have hcase : (j = 0) ∨ (0 < j ∧ y < r) ∨ (0 < j ∧ y = r ∧ v < (i : Int)) := by
            rcases Nat.eq_zero_or_pos j with h | h
            · exact .inl h
            · rcases hxQ h with h1 | ⟨h1, h2⟩
              · exact .inr (.inl ⟨h, h1⟩)
              · exact .inr (.inr ⟨h, h1, h2⟩)
          obtain ⟨T, hTe⟩ : ∃ T, X ++ Z = T := ⟨_, rfl⟩
          rw [hTe] at P q1 q2 hTl
          replace q1 := Lib.hid q1
          replace q2 := Lib.hid q2
          replace hTl := Lib.hid hTl
          have kp := fun U (K : Below w.heap.size w U) => (K.cell (p := ⟨b, off + i, none⟩) hb0).trans kp0
          have hbU := fun U (K : Below w.heap.size w U) => (Nat.lt_of_lt_of_le hb0 K.size : b < U.heap.size)
          have d0 := hB.cell 0
          have lB := hB.lt
          simp only [List.getElem?_cons_zero] at d0
          clear hxQ hTp e hcell hcz hQs hQl hAf hQn hTe kp0 hT
          go_wp2_with (go_at_call 11; (with_reducible refine P.mono ?_); clear P; rintro e wp ⟨⟨q, rfl, hq⟩, Kp⟩)
          obtain ⟨V, hV⟩ : ∃ V, (wp.alloc (.cells #[.int .i64 y, .int .i64 (i : Int)] 32)).alloc (.cells #[.pointer q] 29) = V := ⟨_, rfl⟩
          have hv : Below wp.heap.size wp V := by rw [← hV]; ((repeat' (first | with_reducible exact Below.refl _ _ | with_reducible apply Below.setCell | with_reducible apply below_drewN | with_reducible apply Below.drew | with_reducible apply Below.alloc | with_reducible refine Below.trans ?_ (Below.mono (by assumption) ?_))) <;> (first | (simp; done) | (simp; omega) | omega))
          have hQ : hp.Blk V (wp.heap.size + 1) 29 [.pointer q] := by rw [← hV]; exact hp.Blk.newAt (by simp)
          have hY : hp.Blk V wp.heap.size 32 [.int .i64 y, .int .i64 (i : Int)] := by rw [← hV]; exact (hp.Blk.new wp [.int .i64 y, .int .i64 (i : Int)] _).alloc _
          have KV := Kp.trans (hv.mono Kp.size)
          have hBV := hB.on KV
          have hXV := hX.on KV
          have hqV := hq.on hv
          have hbV := hb.trans (KV.mono hb.size)
          have hs1 := Nat.le_trans hwr (Nat.le_trans (Nat.le_of_lt hX.lt) KV.size)
          have hnX : wp.heap.size + 1 ≠ wr.heap.size := by have := hX.lt; have := Kp.size; omega
          have hnB : wp.heap.size + 1 ≠ wa.heap.size := by have := hB.lt; have := Kp.size; omega
          have hnBX : wa.heap.size ≠ wr.heap.size := by omega
          have kpV := kp V hbV
          have lbV := hbU V hbV
          rw [hV]
          clear hV hq hB hX hb KV Kp hv kp hbU d0 lB
          generalize wp.heap.size = g at *
          obtain ⟨y0, y1⟩ := hY.cellsM
          have ly := hY.lt
          have n0 : decide ((i : Int) < 0) = false := by simp
          have n1 : decide ((k : Int) ≤ (i : Int)) = false := by simp; omega
          have n2 : ¬ ((k : Int) ≤ (i : Int)) := by omega
          have n3 : ¬ (k ≤ i) := by omega
          have n4 : ¬ ((i : Int) < 0) := by omega
          go_big_region
          clear n0 n1 n2 n3 n4 kpV lbV
          obtain ⟨x0, x1⟩ := hXV.cellsM
          have xf := hXV.free
          have lX := hXV.lt
          have q0 := hQ.cell 0
          have lQ := hQ.lt
          have e0 := hBV.cell 0
          have ef := hBV.free
          have lB := hBV.lt
          simp only [List.getElem?_cons_zero] at q0 e0
          have hBn := (((hBV.drew.other (a := ⟨wr.heap.size, 0, none⟩) hnBX (.int .i64 y)).other (a := ⟨wr.heap.size, 1, none⟩) hnBX (.int .i64 (i : Int))).set 0 (.pointer q))
          have hXn := (hXV.drew.setM (.int .i64 y) (.int .i64 (i : Int))).other (a := ⟨wa.heap.size, 0, none⟩) (Ne.symm hnBX) (.pointer q)
          have hTn := (((hqV.keep (keep_drew _)).keep (keep_aitem hXV.drew 0 (.int .i64 y))).keep (keep_aitem (hXV.drew.set 0 (.int .i64 y)) 1 (.int .i64 (i : Int)))).keep (keep_queue ((hBV.drew.other (a := ⟨wr.heap.size, 0, none⟩) hnBX (.int .i64 y)).other (a := ⟨wr.heap.size, 1, none⟩) hnBX (.int .i64 (i : Int))) 0 (.pointer q))
          have hbn := ((hbV.drew.setCell (p := ⟨wr.heap.size, 0, none⟩) (by simp; omega) (.int .i64 y)).setCell (p := ⟨wr.heap.size, 1, none⟩) (by simp; omega) (.int .i64 (i : Int))).setCell (p := ⟨wa.heap.size, 0, none⟩) (by simp; omega) (.pointer q)
          have hend : ∀ U, Below w.heap.size w U → hp.Blk U wa.heap.size 29 [.pointer q] → hp.Blk U wr.heap.size 32 [.int .i64 y, .int .i64 (i : Int)] → IsT U (.agg #[.pointer q]) T → ∃ (j' : Nat) (p : Option Addr) (r v : Int) (Q : List (Int × Int)), Value.int .i64 ((j : Int) + 1) = .int .i64 j' ∧ j' ≤ k ∧ Below w.heap.size w U ∧ hp.Blk U wa.heap.size 29 [.pointer p] ∧ hp.Blk U wr.heap.size 32 [.int .i64 r, .int .i64 v] ∧ IsT U (.agg #[.pointer p]) Q ∧ Hid (Qs l0 k Q) ∧ Hid (Q.length = k - j') ∧ (0 < j' → Aft r v Q) :=
            fun U a1 a2 a3 a4 => ⟨j + 1, q, y, i, T, by simp, by omega, a1, a2, a3, a4, q1, hTl, fun _ => q2.out⟩
          simp only [List.set_cons_zero] at hBn
          clear hqV hbV hBV hXV hQ hY ly q1 q2 hTl
          rcases hcase with rfl | ⟨hj0, hyr⟩ | ⟨hj0, rfl, hvi⟩
          · go_wp2_with fail
            go_roundw
            case rel => exact hend _ hbn hBn hXn hTn
            case measure => simp [intOf]; omega
          · have m1 : ¬ r < y := by omega
            have m2 : (y == r) = false := beq_false_of_ne (by omega)
            clear hyr
            go_wp2_with fail
            go_roundw
            case rel => exact hend _ hbn hBn hXn hTn
            case measure => simp [intOf]; omega
          · have m1 : ¬ (i : Int) < v := by omega
            clear hvi
            go_wp2_with fail
            go_roundw
            case rel => exact hend _ hbn hBn hXn hTn
            case measure => simp [intOf]; omega
        · obtain rfl : j = k := by omega
          obtain rfl : Q = [] := List.eq_nil_of_length_eq_zero (by have := hQl.out; omega)
          have d0 := hB.cell 0
          have lB := hB.lt
          simp only [List.getElem?_cons_zero] at d0
          have H : Calls Try.prog 15 #[.agg #[.pointer p]] W fun e w' => e = .returned (.int .i64 0) ∧ Below W.heap.size W w' := by simpa using len_any hT
          clear hQs hQl hAf hT hcz
          go_wp2_with (go_at_call 15; (with_reducible refine H.mono ?_); rintro e wl ⟨rfl, Kl⟩)
          go_ret
          exact ⟨rfl, hb.trans (Kl.mono hb.size)⟩
end Go.Proofs.Ytfbeiimmcemniaa.prioSorts
