/- The walk of SplayTells. -/
import Derived.Test.YtlaflhnnddfkkaaSplWalks
import Derived.Test.YtlaflhnnddfkkaaSplShape
import Derived.Test.YtlaflhnnddfkkaaSchInner
import Derived.Test.YtlaflhnnddfkkaaOnce
import Derived.Test.YtlaflhnnddfkkaaBools
namespace Go.Proofs.Ytlaflhnnddfkkaa.splayTells
open Go Go.RowKit Go.Proofs.Ytlaflhnnddfkkaa.spl Go.Proofs.Ytlaflhnnddfkkaa.sch Go.Proofs.Ytlaflhnnddfkkaa.same
set_option linter.unusedVariables false

theorem has_to {v : Value} {l : List Int} {x : Int} {w : World} {b : Bool} (hv : IsSet w w.heap.size v l) (hb : Hid (b = decide (x ∈ l))) :
    Calls Try.prog 18 #[v, .int .i64 x] w fun e w' => e = .returned (.bool b) ∧ Below w.heap.size w w' := set_has hv hb.out
theorem lit1 {w : World} {g : Nat} {y : Int} (hk : hp.Blk w g 3 [.int .i64 y]) (hy : (Lit.int .i64 y).wf = true) : hp.IsInts w w.heap.size (.slice (some ⟨g, 0, none⟩) 1 1) [y] :=
  ⟨_, 1, rfl, ⟨(fun h => by cases h), by simp⟩, by simp, by simpa using hy, fun _ => ⟨g, 0, rfl, hk.lt, fun k hk' => by
    obtain rfl : k = 0 := by simp at hk'; omega
    exact hk.cell 0⟩⟩
theorem sifted_as {l D : List Int} {x : Int} (hD : del x l = D) {v u0 : Value} {w : World} (hv : hp.IsInts w w.heap.size v l) (hu0 : hp.IsInts w w.heap.size u0 [x]) (hbd : l.length < 17592186044416) :
    Calls Try.prog 11 #[v, u0, .bool false] w fun e w' => (∃ u, e = .returned u ∧ w'.ownsRow w.heap.size 3 1 u D.length (D.map (Value.int .i64))) ∧ Below w.heap.size w w' := by
  subst hD
  exact sifted_own hv hu0 hbd
theorem once_as {l D : List Int} (hD : uniq l = D) {v : Value} {w : World} (hv : hp.IsInts w w.heap.size v l) (hbd : l.length < 17592186044416) :
    Calls Try.prog 13 #[v] w fun e w' => (∃ u, e = .returned u ∧ w'.ownsRow w.heap.size 3 1 u D.length (D.map (Value.int .i64))) ∧ Below w.heap.size w w' := by
  subst hD
  exact once_own hv hbd

set_option maxRecDepth 100000 in
set_option maxHeartbeats 16000000 in
theorem walk (v0 : Value) (l0 : List Int) (v1 : Value) (n1 : Nat) (f1 : Nat → Bool) (x : Int) (w : World) (i0 : hp.IsInts w w.heap.size v0 l0) (i1 : hp.IsBools w w.heap.size v1 n1 f1) (hx : (Lit.int .i64 x).wf = true) (bd : l0.length ≤ 1048576) :
    Calls Try.prog 3 #[v0, v1, .int .i64 x] w fun e w' => e = .returned (.bool true) ∧ Below w.heap.size w w' := by
  have H9 := fun W (hW : Below w.heap.size w W) => of_as rfl (i0.on hW) (by omega)
  have H10 := fun W (hW : Below w.heap.size w W) => once_any (i0.on hW) (by omega)
  have hul := uniq_le l0
  obtain ⟨U, hU⟩ : ∃ U, uniq l0 = U := ⟨_, rfl⟩
  rw [hU] at hul H9 H10
  have hul2 := Lib.hid (show U.length ≤ 17592186044416 by omega)
  clear hU hul hx
  obtain ⟨a0, c0, rfl, -, -, hwf0, hc0⟩ := i0
  obtain ⟨a1, c1, rfl, hn1, hc1⟩ := i1
  have KK := Below.refl w.heap.size w
  go_enter Try.func3, Try.ntmps3
  go_wp2_with (go_at_call 9; with_reducible refine (known_any _).mono ?_; rintro e wa ⟨rfl, hb⟩; replace KK := st KK hb; clear hb)
  have hA := hp.Blk.new wa [.pointer none, .int .i64 0] tyH
  have hgb := KK.size
  replace KK := KK.alloc KK.size (.cells #[.pointer none, .int .i64 0] tyH)
  obtain ⟨γ, hγ⟩ : ∃ γ, wa.heap.size = γ := ⟨_, rfl⟩
  rw [hγ] at hA hgb ⊢
  go_loopw [9, 10] (fun va i wr => ∃ (k : Nat) (M : List Int) (q : Option Addr), i = .int .i64 k ∧ k ≤ l0.length ∧ M.length ≤ k ∧ Below w.heap.size w wr ∧ hp.Blk wr γ tyH [.pointer q, .int .i64 M.length] ∧ IsSet wr wr.heap.size (rv q M.length) M ∧ wr.ownsRow (γ + 1) 3 1 va M.length (M.map (Value.int .i64))) (fun _ i _ => l0.length - (intOf i).toNat)
  case atStart => exact ⟨0, [], none, rfl, Nat.zero_le _, Nat.le_refl _, KK, hA, IsSet.nil _ _, World.ownsRow_nil _ _ _ _⟩
  case round =>
    rename_i va _
    clear KK hA hγ
    obtain ⟨k, M, q, rfl, hk, hMk, hb, hA, hX, hall⟩ := hrel
    by_cases hlt : k < l0.length
    · obtain ⟨b, off, rfl, hbb, hce⟩ := hc0 (by omega)
      have hce' := hce k hlt
      have hcx := (hb.cell (p := ⟨b, off + k, none⟩) hbb).trans (hce k hlt)
      have hwy : (Lit.int .i64 (l0.getD k 0)).wf = true := hwf0 _ (by simp [hlt])
      have hbw : b < wr.heap.size := Nat.lt_of_lt_of_le hbb hb.size
      obtain ⟨y, hy⟩ : ∃ y, l0.getD k 0 = y := ⟨_, rfl⟩
      rw [hy] at hcx hwy hce'
      have hwM := hX.wf
      have hascM := hX.asc
      have hwMy : ∀ z ∈ M ++ [y], (Lit.int .i64 z).wf = true := fun z hz => by
        rcases List.mem_append.1 hz with hz | hz
        · exact hwM z hz
        · obtain rfl : z = y := by simpa using hz
          exact hwy
      clear hc0 hce hwf0 hy H9 H10 hul2
      by_cases hdr : k < n1 ∧ f1 k = true
      · obtain ⟨hkn, hft⟩ := hdr
        obtain ⟨b1, o1, rfl, hb1, hd1⟩ := hc1 (by omega)
        have hy2 := (hb.cell (p := ⟨b1, o1 + k, none⟩) hb1).trans (hd1 k hkn)
        rw [hft] at hy2
        have hb1w := Nat.lt_of_lt_of_le hb1 hb.size
        have hdl := del_le y M
        have hwD := del_wf (x := y) hwM
        obtain ⟨D, hD⟩ : ∃ D, del y M = D := ⟨_, rfl⟩
        rw [hD] at hdl hwD
        have hop := fun W (hW : Below wr.heap.size wr W) => drop_as hD (hX.on hW) hwy (by omega)
        replace hD := hD
        clear hc1 hd1 hft hwMy hascM
        go_wp2_with fail
        rename_i K1 hK1
        replace hK1 := Lib.hid hK1
        apply rel.region_tail (C := fun w' => Below wr.heap.size wr w') (X := fun w w' => Below w.heap.size w w') 6 (by kernel_rfl) (by kernel_rfl) (by kernel_rfl) (by kernel_rfl) ((Below.refl _ _).drew)
        ((apply rel.walk_val; (focus (intro wq hq hf; (obtain ⟨d0, d1⟩ := ((hA).below hq (hA).lt).cells2); go_wp2; refine ⟨hq, Below.refl _ _, ?_, rfl⟩; (show rel.slot _ _ = _; simp only [rel.slot_lit, List.getD_cons_succ, List.getD_cons_zero]; (first | done | exact rfl)))); (simp only [rel.put_lit, List.set_cons_succ, List.set_cons_zero])))
        (apply rel.walk_val; (focus (intro wq hq hf; go_wp2; refine ⟨hq, Below.refl _ _, ?_, rfl⟩; (show rel.slot _ _ = _; simp only [rel.slot_lit, List.getD_cons_succ, List.getD_cons_zero]; (first | done | exact rfl)))); (simp only [rel.put_lit, List.set_cons_succ, List.set_cons_zero]))
        (apply rel.walk_val; (focus (intro wq hq hf; go_wp2; refine ⟨hq, Below.refl _ _, ?_, rfl⟩; (show rel.slot _ _ = _; simp only [rel.slot_lit, List.getD_cons_succ, List.getD_cons_zero]; (first | done | exact rfl)))); (simp only [rel.put_lit, List.set_cons_succ, List.set_cons_zero]))
        (apply rel.walk_val; (focus (intro wq hq hf; go_wp2; refine ⟨hq, Below.refl _ _, ?_, rfl⟩; (show rel.slot _ _ = _; simp only [rel.slot_lit, List.getD_cons_succ, List.getD_cons_zero]; (first | done | exact rfl)))); (simp only [rel.put_lit, List.set_cons_succ, List.set_cons_zero]))
        ((apply rel.walk_val; (focus (intro wq hq hf; (have d0 := (hq.cell (p := ⟨b, off + k, none⟩) hbw).trans hcx); go_wp2; refine ⟨hq, Below.refl _ _, ?_, rfl⟩; (show rel.slot _ _ = _; simp only [rel.slot_lit, List.getD_cons_succ, List.getD_cons_zero]; (first | done | exact rfl)))); (simp only [rel.put_lit, List.set_cons_succ, List.set_cons_zero])))
        (apply rel.walk_rel (fun u w' => spl.IsSet w' w'.heap.size u (D)) ⟨_, rfl⟩ (fun u w1 w2 h1 h2 => h2.on h1); (focus (intro wq hq hf; go_wp2_with (go_at_call 10; with_reducible refine (hop _ hq).mono ?_; rintro e w'' ⟨⟨u, rfl, hu⟩, hb⟩); refine ⟨hq.trans (hb.mono hq.size), hb, ?_, rfl⟩; (show spl.IsSet _ _ (rel.slot _ _) _; simp only [rel.slot_lit, List.getD_cons_succ, List.getD_cons_zero]; exact hu))); (intro u wu _ hu; obtain ⟨pz, t_pz, rfl, -⟩ := hu; (simp only [rel.put_lit, List.set_cons_succ, List.set_cons_zero])))
        refine rel.walk_nil ?_
        intro w9 K9 hF
        have hu : IsSet w9 w9.heap.size (rv pz D.length) D := hF _ (List.mem_cons_self ..)
        have hR9 := hA.on K9
        obtain ⟨d0, d1⟩ := hR9.cells2
        have f0 := hR9.free 0
        have f1' := hR9.free 1
        clear hF hop
        simp only [List.drop_succ_cons, List.drop_zero]
        go_wp2_with fail
        obtain ⟨W9, hW9, hS, hQ, hB, hKp, hsz, hot⟩ := spl.stored (k := (D.length : Int)) rfl hR9 hgb (hb.trans (K9.mono hb.size)) hu
        have hall9 := hp.row_set (o := 1) (hp.row_set (o := 0) (hp.row_on hall K9) hR9 (by decide) (.pointer pz)) (hR9.set 0 (.pointer pz)) (by decide) (.int .i64 (D.length : Int))
        rw [hW9] at hall9 ⊢
        have hcx9 := (hB.cell (p := ⟨b, off + k, none⟩) hbb).trans hce'
        have hbw9 := Nat.lt_of_lt_of_le hbb hB.size
        have hg9 : γ + 1 ≤ W9.heap.size := hS.lt
        clear hW9 d0 d1 f0 f1' hR9 hA hX hall hu K9 hcx hbw hKp hsz hot hb
        have hIa := hp.IsInts.of_owns hall9 rfl hwM
        have hsi := fun W g (hW : Below W9.heap.size W9 W) (hg : hp.Blk W g 3 [.int .i64 y]) => sifted_as hD (hIa.on hW) (lit1 hg hwy) (by omega)
        obtain ⟨aa, ca, rfl⟩ := rowN_val hall9
        refine hK1.out _ _ ?_
        go_wp2_with (go_at_call 11; (with_reducible refine (hsi _ _ ((Below.refl _ _).alloc (Nat.le_refl _) _) (hp.Blk.new _ _ _)).mono ?_); clear hsi; rintro e WA ⟨⟨va', rfl, rowA⟩, hbA⟩; rename_i K2 hK2; replace hK2 := Lib.hid hK2)
        have hbA2 := st ((Below.refl W9.heap.size W9).alloc (Nat.le_refl _) (.cells #[.int .i64 y] 3)) hbA
        have rowA2 := row_base (b' := γ + 1) rowA (by simp; omega)
        have hQA := hQ.on hbA2
        have hSA := hS.on hbA2
        have hBA := hB.trans (hbA2.mono hB.size)
        clear hQ hS hB hall9 hIa hbA hbA2 rowA hcx9 hbw9
        have hDl : D.length ≤ 1048576 := by omega
        have hDm := Lib.hid (show D.length ≤ 17592186044416 by omega)
        have hID := hp.IsInts.of_owns rowA2 rfl hwD
        have hbq : ∃ q : Nat, q ≤ 1048576 ∧ oft D x = q ∧ ((x ∈ D ∧ 0 < q) ∨ (x ∉ D ∧ q = 0)) := by
          refine ⟨_, Nat.le_trans (oft_le D x) hDl, rfl, ?_⟩
          by_cases h : x ∈ D
          · refine .inl ⟨h, ?_⟩
            rcases Nat.eq_zero_or_pos (oft D x) with h0 | h0
            · exact absurd h (oft_zero.1 h0)
            · exact h0
          · exact .inr ⟨h, oft_zero.2 h⟩
        have hof := fun W (hW : Below WA.heap.size WA W) => often_any va' D x W (hID.on hW)
        obtain ⟨q, hql, hq, hbq⟩ := hbq
        rw [hq] at hof
        clear hq
        obtain ⟨aa', ca', rfl⟩ := rowN_val rowA2
        obtain ⟨g0, g1⟩ := hSA.cells2
        have KW := Below.refl WA.heap.size WA
        have hbb : ∃ bb : Bool, Hid (bb = decide (x ∈ D)) ∧ ((bb = true ∧ 0 < q) ∨ (bb = false ∧ q = 0)) := by
          rcases hbq with ⟨h1, h2⟩ | ⟨h1, h2⟩
          · exact ⟨true, Lib.hid (by simpa using h1), .inl ⟨rfl, h2⟩⟩
          · exact ⟨false, Lib.hid (by simpa using h1), .inr ⟨rfl, h2⟩⟩
        clear hbq
        obtain ⟨bb, hbd, hbq⟩ := hbb
        have hhx := fun W (hW : Below WA.heap.size WA W) => has_to (hQA.on hW) hbd
        rcases hbq with ⟨rfl, hq0⟩ | ⟨rfl, rfl⟩ <;> (
          clear hbd
          refine hK2.out _ _ ?_
          go_wp2_with (first
            | (go_at_call 16; (with_reducible refine (ints_any (hQA.on KW) hDm.out).mono ?_); rintro e wd ⟨⟨u, rfl, hI⟩, hb⟩; replace KW := st KW hb; clear g0 g1 hb; (obtain ⟨g0, g1⟩ := (hSA.on KW).cells2))
            | (go_at_call 15; (with_reducible refine (same.ints_eq rfl hI (hID.on KW)).mono ?_); rintro e wd ⟨rfl, hb⟩; replace KW := st KW hb; clear g0 g1 hb hI; (obtain ⟨g0, g1⟩ := (hSA.on KW).cells2))
            | (go_at_call 17; (with_reducible refine (len_any _ _ _ (hQA.on KW)).mono ?_); rintro e wd ⟨rfl, hb⟩; replace KW := st KW hb; clear g0 g1 hb; (obtain ⟨g0, g1⟩ := (hSA.on KW).cells2))
            | (go_at_call 18; (with_reducible refine (hhx _ KW).mono ?_); rintro e wd ⟨rfl, hb⟩; replace KW := st KW hb; clear g0 g1 hb; (obtain ⟨g0, g1⟩ := (hSA.on KW).cells2))
            | (go_at_call 19; (with_reducible refine (hof _ KW).mono ?_); rintro e wd ⟨rfl, hb⟩; replace KW := st KW hb; clear g0 g1 hb; (obtain ⟨g0, g1⟩ := (hSA.on KW).cells2))
            | (go_at_call 21; (with_reducible refine (set_shape (hQA.on KW) (Nat.le_trans hDl (by decide))).mono ?_); rintro e wd ⟨⟨u, t, rfl, hav, hkt, hnd⟩, hb⟩; replace KW := st KW hb; clear g0 g1 hb hav)
            | (go_at_call 20; (with_reducible refine (shaped_any hnd (hID.on KW) hkt hDl).mono ?_); rintro e wd ⟨rfl, hb⟩; replace KW := st KW hb; clear hb hnd hkt))
          go_roundw
          (case rel => exact ⟨k + 1, D, pz, by go_num, by omega, by omega, hBA.trans (KW.mono hBA.size), hSA.on KW, hQA.on KW, hp.row_on rowA2 KW⟩)
          (case measure => simp [intOf]; omega))
      · have hdl := ins_le y M
        have hwD := ins_wf hwy hwM
        have hDu : uniq (M ++ [y]) = ins y M := by rw [uniq_snoc, uniq_same hascM]
        obtain ⟨D, hD⟩ : ∃ D, ins y M = D := ⟨_, rfl⟩
        rw [hD] at hdl hwD hDu
        have hop := fun W (hW : Below wr.heap.size wr W) => put_as hD (hX.on hW) hwy (by omega)
        have hcs : (∃ b1 o1, a1 = some ⟨b1, o1, none⟩ ∧ k < n1 ∧ b1 < wr.heap.size ∧ wr.cell? ⟨b1, o1 + k, none⟩ = some (.bool false)) ∨ ¬ k < n1 := by
          by_cases hkn : k < n1
          · obtain ⟨b1, o1, rfl, hb1, hd1⟩ := hc1 (by omega)
            have hft : f1 k = false := by
              cases h : f1 k with
              | false => rfl
              | true => exact absurd ⟨hkn, h⟩ hdr
            exact .inl ⟨b1, o1, rfl, hkn, Nat.lt_of_lt_of_le hb1 hb.size, by rw [(hb.cell (p := ⟨b1, o1 + k, none⟩) hb1).trans (hd1 k hkn), hft]⟩
          · exact .inr hkn
        clear hc1 hdr hascM hD
        rcases hcs with ⟨b1, o1, rfl, hkn, hb1w, hy2⟩ | hkn <;> (
        go_wp2_with fail
        rename_i K1 hK1
        replace hK1 := Lib.hid hK1
        apply rel.region_tail (C := fun w' => Below wr.heap.size wr w') (X := fun w w' => Below w.heap.size w w') 6 (by kernel_rfl) (by kernel_rfl) (by kernel_rfl) (by kernel_rfl) ((Below.refl _ _).drew)
        ((apply rel.walk_val; (focus (intro wq hq hf; (obtain ⟨d0, d1⟩ := ((hA).below hq (hA).lt).cells2); go_wp2; refine ⟨hq, Below.refl _ _, ?_, rfl⟩; (show rel.slot _ _ = _; simp only [rel.slot_lit, List.getD_cons_succ, List.getD_cons_zero]; (first | done | exact rfl)))); (simp only [rel.put_lit, List.set_cons_succ, List.set_cons_zero])))
        (apply rel.walk_val; (focus (intro wq hq hf; go_wp2; refine ⟨hq, Below.refl _ _, ?_, rfl⟩; (show rel.slot _ _ = _; simp only [rel.slot_lit, List.getD_cons_succ, List.getD_cons_zero]; (first | done | exact rfl)))); (simp only [rel.put_lit, List.set_cons_succ, List.set_cons_zero]))
        (apply rel.walk_val; (focus (intro wq hq hf; go_wp2; refine ⟨hq, Below.refl _ _, ?_, rfl⟩; (show rel.slot _ _ = _; simp only [rel.slot_lit, List.getD_cons_succ, List.getD_cons_zero]; (first | done | exact rfl)))); (simp only [rel.put_lit, List.set_cons_succ, List.set_cons_zero]))
        (apply rel.walk_val; (focus (intro wq hq hf; go_wp2; refine ⟨hq, Below.refl _ _, ?_, rfl⟩; (show rel.slot _ _ = _; simp only [rel.slot_lit, List.getD_cons_succ, List.getD_cons_zero]; (first | done | exact rfl)))); (simp only [rel.put_lit, List.set_cons_succ, List.set_cons_zero]))
        ((apply rel.walk_val; (focus (intro wq hq hf; (have d0 := (hq.cell (p := ⟨b, off + k, none⟩) hbw).trans hcx); go_wp2; refine ⟨hq, Below.refl _ _, ?_, rfl⟩; (show rel.slot _ _ = _; simp only [rel.slot_lit, List.getD_cons_succ, List.getD_cons_zero]; (first | done | exact rfl)))); (simp only [rel.put_lit, List.set_cons_succ, List.set_cons_zero])))
        (apply rel.walk_rel (fun u w' => spl.IsSet w' w'.heap.size u (D)) ⟨_, rfl⟩ (fun u w1 w2 h1 h2 => h2.on h1); (focus (intro wq hq hf; go_wp2_with (go_at_call 12; with_reducible refine (hop _ hq).mono ?_; rintro e w'' ⟨⟨u, rfl, hu⟩, hb⟩); refine ⟨hq.trans (hb.mono hq.size), hb, ?_, rfl⟩; (show spl.IsSet _ _ (rel.slot _ _) _; simp only [rel.slot_lit, List.getD_cons_succ, List.getD_cons_zero]; exact hu))); (intro u wu _ hu; obtain ⟨pz, t_pz, rfl, -⟩ := hu; (simp only [rel.put_lit, List.set_cons_succ, List.set_cons_zero])))
        refine rel.walk_nil ?_
        intro w9 K9 hF
        have hu : IsSet w9 w9.heap.size (rv pz D.length) D := hF _ (List.mem_cons_self ..)
        have hR9 := hA.on K9
        obtain ⟨d0, d1⟩ := hR9.cells2
        have f0 := hR9.free 0
        have f1' := hR9.free 1
        clear hF hop
        simp only [List.drop_succ_cons, List.drop_zero]
        go_wp2_with fail
        obtain ⟨W9, hW9, hS, hQ, hB, hKp, hsz, hot⟩ := spl.stored (k := (D.length : Int)) rfl hR9 hgb (hb.trans (K9.mono hb.size)) hu
        have hall9 := hp.row_set (o := 1) (hp.row_set (o := 0) (hp.row_on hall K9) hR9 (by decide) (.pointer pz)) (hR9.set 0 (.pointer pz)) (by decide) (.int .i64 (D.length : Int))
        rw [hW9] at hall9 ⊢
        have hcx9 := (hB.cell (p := ⟨b, off + k, none⟩) hbb).trans hce'
        have hbw9 := Nat.lt_of_lt_of_le hbb hB.size
        have hg9 : γ + 1 ≤ W9.heap.size := hS.lt
        clear hW9 d0 d1 f0 f1' hR9 hA hX hall hu K9 hcx hbw hKp hsz hot hb
        have hIa := hp.IsInts.of_owns hall9 rfl hwM
        have hca := fun W (hW : Below W9.heap.size W9 W) => same.cat_own _ M (.slice none 0 0) [] W (hIa.on hW) (hp.IsInts.nil _ _) (by simp; omega)
        rw [List.append_nil] at hca
        have hon := fun W u (hu : hp.IsInts W W.heap.size u (M ++ [y])) => once_as hDu hu (by simp; omega)
        obtain ⟨aa, ca, rfl⟩ := rowN_val hall9
        refine hK1.out _ _ ?_
        rename_i K2 hK2
        replace hK2 := Lib.hid hK2
        apply rel.region_tail (C := fun w' => Below W9.heap.size W9 w') (X := fun w w' => Below w.heap.size w w') 7 (by kernel_rfl) (by kernel_rfl) (by kernel_rfl) (by kernel_rfl) ((Below.refl _ _).drew)
        (apply rel.walk_val; (focus (intro wq hq hf; go_wp2; refine ⟨hq, Below.refl _ _, ?_, rfl⟩; (show rel.slot _ _ = _; simp only [rel.slot_lit, List.getD_cons_succ, List.getD_cons_zero]; (first | done | exact rfl)))); (simp only [rel.put_lit, List.set_cons_succ, List.set_cons_zero]))
        (apply rel.walk_rel (fun u w' => w'.ownsRow (W9.heap.size) 3 1 u (M : List Int).length ((M : List Int).map (Value.int .i64))) ⟨_, rfl⟩ (fun u w1 w2 h1 h2 => hp.row_on h2 h1); (focus (intro wq hq hf; go_wp2_with (go_at_call 14; with_reducible refine (hca _ hq).mono ?_; rintro e w'' ⟨⟨u, rfl, hu⟩, hb⟩); refine ⟨hq.trans (hb.mono hq.size), hb, ?_, rfl⟩; (show World.ownsRow _ _ _ _ (rel.slot _ _) _ _; simp only [rel.slot_lit, List.getD_cons_succ, List.getD_cons_zero]; exact same.row_base hu (hq.size)))); (intro u wu _ hu; (obtain ⟨a_o, c_o, rfl⟩ : ∃ a c, u = .slice a (M : List Int).length c := by rcases hu.2 with ⟨h, h0⟩ | ⟨g, cap, cur, h, _⟩; exact ⟨none, 0, by rw [h, h0]⟩; exact ⟨_, _, h⟩); (simp only [rel.put_lit, List.set_cons_succ, List.set_cons_zero])))
        (apply rel.walk_val; (focus (intro wq hq hf; go_wp2; refine ⟨hq, Below.refl _ _, ?_, rfl⟩; (show rel.slot _ _ = _; simp only [rel.slot_lit, List.getD_cons_succ, List.getD_cons_zero]; (first | done | exact rfl)))); (simp only [rel.put_lit, List.set_cons_succ, List.set_cons_zero]))
        (apply rel.walk_val; (focus (intro wq hq hf; go_wp2; refine ⟨hq, Below.refl _ _, ?_, rfl⟩; (show rel.slot _ _ = _; simp only [rel.slot_lit, List.getD_cons_succ, List.getD_cons_zero]; (first | done | exact rfl)))); (simp only [rel.put_lit, List.set_cons_succ, List.set_cons_zero]))
        (apply rel.walk_val; (focus (intro wq hq hf; go_wp2; refine ⟨hq, Below.refl _ _, ?_, rfl⟩; (show rel.slot _ _ = _; simp only [rel.slot_lit, List.getD_cons_succ, List.getD_cons_zero]; (first | done | exact rfl)))); (simp only [rel.put_lit, List.set_cons_succ, List.set_cons_zero]))
        ((apply rel.walk_val; (focus (intro wq hq hf; (have d0 := (hq.cell (p := ⟨b, off + k, none⟩) hbw9).trans hcx9); go_wp2; refine ⟨hq, Below.refl _ _, ?_, rfl⟩; (show rel.slot _ _ = _; simp only [rel.slot_lit, List.getD_cons_succ, List.getD_cons_zero]; (first | done | exact rfl)))); (simp only [rel.put_lit, List.set_cons_succ, List.set_cons_zero])))
        (apply rel.walk_rel (fun u w' => ∃ g, u = .slice (some ⟨g, 0, none⟩) 1 1 ∧ W9.heap.size ≤ g ∧ hp.Blk w' g 3 [.int .i64 y]) ⟨_, rfl⟩ (fun u w1 w2 h1 h2 => by obtain ⟨g, he, hl, hk⟩ := h2; exact ⟨g, he, hl, hk.on h1⟩); (focus (intro wq hq hf; go_wp2; refine ⟨hq.alloc hq.size _, (Below.refl _ _).alloc (Nat.le_refl _) _, ?_, rfl⟩; (show ∃ g, rel.slot _ _ = _ ∧ _; simp only [rel.slot_lit, List.getD_cons_succ, List.getD_cons_zero]; exact ⟨_, rfl, hq.size, hp.Blk.new _ _ _⟩))); (intro u wu _ hu; obtain ⟨gs, rfl, -, -⟩ := hu; (simp only [rel.put_lit, List.set_cons_succ, List.set_cons_zero])))
        refine rel.walk_nil ?_
        intro w8 K8 hF
        have rowC : w8.ownsRow W9.heap.size 3 1 (.slice a_o M.length c_o) M.length (M.map (Value.int .i64)) := hF _ (List.mem_cons_of_mem _ (List.mem_cons_self ..))
        obtain ⟨γs, hes, -, hks⟩ : ∃ g, Value.slice (some ⟨gs, 0, none⟩) 1 1 = .slice (some ⟨g, 0, none⟩) 1 1 ∧ W9.heap.size ≤ g ∧ hp.Blk w8 g 3 [.int .i64 y] := hF _ (List.mem_cons_self ..)
        obtain rfl : gs = γs := by simpa using hes
        clear hF hes hca
        simp only [List.drop_succ_cons, List.drop_zero]
        go_wp2_with (first
          | (at_builtin; refine hp.append_ints rfl _ _ 22 rfl W9.heap.size 3 Try.underlying22 same.infoInt _ M.length M rfl rowC _ [y] rfl (lit1 hks hwy) (by simp; omega) K8.size ?_; intro u4 w4 own4 gr4; have K4 : Below W9.heap.size W9 w4 := K8.grown gr4 K8.size (fun k hk => (rowC.lt k hk).1); have hI4 := hp.IsInts.of_owns own4 (by simp) hwMy)
          | (go_at_call 13; (with_reducible refine (hon _ _ hI4).mono ?_); clear hon; rintro e WA ⟨⟨va', rfl, rowA⟩, hbA⟩))
        have hbA2 := st K4 hbA
        have rowA2 := row_base (b' := γ + 1) rowA (by have := K4.size; omega)
        have hQA := hQ.on hbA2
        have hSA := hS.on hbA2
        have hBA := hB.trans (hbA2.mono hB.size)
        clear hQ hS hB hall9 hIa hbA hbA2 rowA hcx9 hbw9
        have hDl : D.length ≤ 1048576 := by omega
        have hDm := Lib.hid (show D.length ≤ 17592186044416 by omega)
        have hID := hp.IsInts.of_owns rowA2 rfl hwD
        have hbq : ∃ q : Nat, q ≤ 1048576 ∧ oft D x = q ∧ ((x ∈ D ∧ 0 < q) ∨ (x ∉ D ∧ q = 0)) := by
          refine ⟨_, Nat.le_trans (oft_le D x) hDl, rfl, ?_⟩
          by_cases h : x ∈ D
          · refine .inl ⟨h, ?_⟩
            rcases Nat.eq_zero_or_pos (oft D x) with h0 | h0
            · exact absurd h (oft_zero.1 h0)
            · exact h0
          · exact .inr ⟨h, oft_zero.2 h⟩
        have hof := fun W (hW : Below WA.heap.size WA W) => often_any va' D x W (hID.on hW)
        obtain ⟨q, hql, hq, hbq⟩ := hbq
        rw [hq] at hof
        clear hq
        obtain ⟨aa', ca', rfl⟩ := rowN_val rowA2
        obtain ⟨g0, g1⟩ := hSA.cells2
        have KW := Below.refl WA.heap.size WA
        have hbb : ∃ bb : Bool, Hid (bb = decide (x ∈ D)) ∧ ((bb = true ∧ 0 < q) ∨ (bb = false ∧ q = 0)) := by
          rcases hbq with ⟨h1, h2⟩ | ⟨h1, h2⟩
          · exact ⟨true, Lib.hid (by simpa using h1), .inl ⟨rfl, h2⟩⟩
          · exact ⟨false, Lib.hid (by simpa using h1), .inr ⟨rfl, h2⟩⟩
        clear hbq
        obtain ⟨bb, hbd, hbq⟩ := hbb
        have hhx := fun W (hW : Below WA.heap.size WA W) => has_to (hQA.on hW) hbd
        rcases hbq with ⟨rfl, hq0⟩ | ⟨rfl, rfl⟩ <;> (
          clear hbd
          refine hK2.out _ _ ?_
          go_wp2_with (first
            | (go_at_call 16; (with_reducible refine (ints_any (hQA.on KW) hDm.out).mono ?_); rintro e wd ⟨⟨u, rfl, hI⟩, hb⟩; replace KW := st KW hb; clear g0 g1 hb; (obtain ⟨g0, g1⟩ := (hSA.on KW).cells2))
            | (go_at_call 15; (with_reducible refine (same.ints_eq rfl hI (hID.on KW)).mono ?_); rintro e wd ⟨rfl, hb⟩; replace KW := st KW hb; clear g0 g1 hb hI; (obtain ⟨g0, g1⟩ := (hSA.on KW).cells2))
            | (go_at_call 17; (with_reducible refine (len_any _ _ _ (hQA.on KW)).mono ?_); rintro e wd ⟨rfl, hb⟩; replace KW := st KW hb; clear g0 g1 hb; (obtain ⟨g0, g1⟩ := (hSA.on KW).cells2))
            | (go_at_call 18; (with_reducible refine (hhx _ KW).mono ?_); rintro e wd ⟨rfl, hb⟩; replace KW := st KW hb; clear g0 g1 hb; (obtain ⟨g0, g1⟩ := (hSA.on KW).cells2))
            | (go_at_call 19; (with_reducible refine (hof _ KW).mono ?_); rintro e wd ⟨rfl, hb⟩; replace KW := st KW hb; clear g0 g1 hb; (obtain ⟨g0, g1⟩ := (hSA.on KW).cells2))
            | (go_at_call 21; (with_reducible refine (set_shape (hQA.on KW) (Nat.le_trans hDl (by decide))).mono ?_); rintro e wd ⟨⟨u, t, rfl, hav, hkt, hnd⟩, hb⟩; replace KW := st KW hb; clear g0 g1 hb hav)
            | (go_at_call 20; (with_reducible refine (shaped_any hnd (hID.on KW) hkt hDl).mono ?_); rintro e wd ⟨rfl, hb⟩; replace KW := st KW hb; clear hb hnd hkt))
          go_roundw
          (case rel => exact ⟨k + 1, D, pz, by go_num, by omega, by omega, hBA.trans (KW.mono hBA.size), hSA.on KW, hQA.on KW, hp.row_on rowA2 KW⟩)
          (case measure => simp [intOf]; omega)))
    · obtain rfl : k = l0.length := by omega
      have h9 := H9 _ hb
      clear hc0 hc1 hA hX hall H9 hMk hlt hk
      go_wp2_with (first
        | (go_at_call 22; (with_reducible refine h9.mono ?_); clear h9; rintro e wb ⟨⟨q1, rfl, hX⟩, hb1⟩; replace hb := hb.trans (hb1.mono hb.size); clear hb1)
        | (go_at_call 16; (with_reducible refine (ints_any hX hul2.out).mono ?_); rintro e wc ⟨⟨u, rfl, hI⟩, hb1⟩; replace hb := hb.trans (hb1.mono hb.size); clear hb1 hX; have h10 := H10 _ hb)
        | (go_at_call 13; (with_reducible refine h10.mono ?_); clear h10 H10; rintro e wd ⟨⟨u2, rfl, hJ⟩, hb1⟩; replace hb := hb.trans (hb1.mono hb.size); replace hI := hI.on hb1; clear hb1)
        | (go_at_call 15; (with_reducible refine (same.ints_eq rfl hI hJ).mono ?_); rintro e we ⟨rfl, hb1⟩; replace hb := hb.trans (hb1.mono hb.size); clear hb1))
      go_ret
      exact ⟨rfl, hb⟩
end Go.Proofs.Ytlaflhnnddfkkaa.splayTells
