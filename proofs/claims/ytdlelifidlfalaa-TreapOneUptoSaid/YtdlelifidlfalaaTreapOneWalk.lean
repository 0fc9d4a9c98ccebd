/- The walk of TreapOne. -/
import Derived.Test.YtdlelifidlfalaaTrpWalks
import Derived.Test.YtdlelifidlfalaaTrpShape
import Derived.Test.YtdlelifidlfalaaSchNodes
import Derived.Test.YtdlelifidlfalaaOnce
import Derived.Test.YtdlelifidlfalaaInts
namespace Go.Proofs.Ytdlelifidlfalaa.treapOne
open Go Go.RowKit Go.Proofs.Ytdlelifidlfalaa.trp Go.Proofs.Ytdlelifidlfalaa.sch Go.Proofs.Ytdlelifidlfalaa.same
set_option linter.unusedVariables false

/-- two sets, each in a variable of its own -/
structure Tw (w W : World) (γ₁ γ₂ : Nat) (qs : Option Addr) (K : List Int) (q : Option Addr) (S : List Int) : Prop where
  below : Below w.heap.size w W
  boxA : hp.Blk W γ₁ tyH [.pointer qs, .int .i64 K.length]
  setA : IsSet W W.heap.size (rv qs K.length) K
  boxB : hp.Blk W γ₂ tyH [.pointer q, .int .i64 S.length]
  setB : IsSet W W.heap.size (rv q S.length) S
theorem Tw.on {w W W' : World} {γ₁ γ₂ : Nat} {qs q : Option Addr} {K S : List Int} (h : Tw w W γ₁ γ₂ qs K q S) (hb : Below W.heap.size W W') : Tw w W' γ₁ γ₂ qs K q S :=
  ⟨h.below.trans (hb.mono h.below.size), h.boxA.on hb, h.setA.on hb, h.boxB.on hb, h.setB.on hb⟩
/-- another set goes into the second one -/
theorem Tw.put {w W : World} {γ₁ γ₂ : Nat} {qs q q' : Option Addr} {K S S' : List Int} (h : Tw w W γ₁ γ₂ qs K q S) (hne : γ₁ ≠ γ₂) (hg : w.heap.size ≤ γ₂) (hs : IsSet W W.heap.size (rv q' S'.length) S') :
    ∃ W', (W.setCell ⟨γ₂, 0, none⟩ (.pointer q')).setCell ⟨γ₂, 1, none⟩ (.int .i64 S'.length) = W' ∧ Tw w W' γ₁ γ₂ qs K q' S' := by
  obtain ⟨W', e, h1, h2, h3, h4, h5, h6⟩ := trp.stored (k := (S'.length : Int)) rfl h.boxB hg h.below hs
  exact ⟨W', e, h3, h6 _ _ _ hne h.boxA, (h.setA.keep h4).mono (by omega), h1, h2⟩
theorem union_as {v u : Value} {l m K : List Int} {w : World} (hK : mrg true l m = K) (hv : IsSet w w.heap.size v l) (hu : IsSet w w.heap.size u m) (hbd : l.length + m.length < 4398046511104) :
    Calls Try.prog 23 #[v, u] w fun e w' => (∃ q, e = .returned (rv q K.length) ∧ IsSet w' w'.heap.size (rv q K.length) K) ∧ Below w.heap.size w w' := by
  subst hK
  exact set_union hv hu hbd
/-- one set, one row -/
theorem shape_one {v : Value} {K : List Int} {T : Tr} {w : World} (hv : IsSet w w.heap.size v K) (hT : Tp T) (hk : keys T = K) (hbd : K.length ≤ 1048576) :
    Calls Try.prog 20 #[v] w fun e w' => (∃ u, e = .returned u ∧ IsNds w' w'.heap.size u (shp T 0)) ∧ Below w.heap.size w w' := by
  refine (set_shape hv hbd).mono ?_
  rintro e w' ⟨⟨u, t, rfl, h1, h2, h3⟩, hb⟩
  have := h1.one hT (by rw [h2]; exact hv.asc) (by rw [h2, hk])
  subst this
  exact ⟨⟨u, rfl, h3⟩, hb⟩
theorem getD_mem {l : List Int} {i : Nat} (h : i < l.length) : l.getD i 0 ∈ l := by simp [h]
theorem take_mem {l : List Int} {i : Nat} (h : i < l.length) (z : Int) : z ∈ l.take (i + 1) ↔ z = l.getD i 0 ∨ z ∈ l.take i := by
  rw [same.take_snoc l i h, List.mem_append, List.mem_singleton]
  exact Or.comm
theorem drop_mem {l : List Int} {i : Nat} (h : i < l.length) (z : Int) : z ∈ l.drop i ↔ z = l.getD i 0 ∨ z ∈ l.drop (i + 1) := by
  rw [List.drop_eq_getElem_cons h, List.mem_cons]
  simp [h]

set_option maxRecDepth 100000 in
set_option maxHeartbeats 16000000 in
theorem walk (v0 : Value) (l0 : List Int) (v1 : Value) (l1 : List Int) (v2 : Value) (l2 : List Int) (w : World) (i0 : hp.IsInts w w.heap.size v0 l0) (i1 : hp.IsInts w w.heap.size v1 l1) (i2 : hp.IsInts w w.heap.size v2 l2) (bd : l0.length + l1.length + l2.length ≤ 1048576) :
    Calls Try.prog 6 #[v0, v1, v2] w fun e w' => e = .returned (.bool true) ∧ Below w.heap.size w w' := by
  have hul0 := uniq_le l0
  have hul1 := uniq_le l1
  have hulK := uniq_le (l0 ++ l1)
  have hKm : Hid (∀ z, z ∈ uniq (l0 ++ l1) ↔ z ∈ l0 ∨ z ∈ l1) := Lib.hid fun z => by rw [mem_uniq, List.mem_append]
  have hmg : mrg true (uniq l0) (uniq l1) = uniq (l0 ++ l1) := (mrg_of (uniq_asc _) fun z => by rw [mem_uniq, List.mem_append, mem_uniq, mem_uniq]; simp).symm
  have hKa := Lib.hid (uniq_asc (l0 ++ l1))
  rw [List.length_append] at hulK
  obtain ⟨U0, hU0⟩ : ∃ U, uniq l0 = U := ⟨_, rfl⟩
  obtain ⟨U1, hU1⟩ : ∃ U, uniq l1 = U := ⟨_, rfl⟩
  obtain ⟨K, hK⟩ : ∃ U, uniq (l0 ++ l1) = U := ⟨_, rfl⟩
  rw [hU0] at hul0 hmg
  rw [hU1] at hul1 hmg
  rw [hK] at hulK hKm hmg hKa
  have hKl : K.length ≤ 1048576 := by omega
  have H0 := fun W (hW : Below w.heap.size w W) => of_as hU0 (i0.on hW) (by omega)
  have H1 := fun W (hW : Below w.heap.size w W) => of_as hU1 (i1.on hW) (by omega)
  have HU := fun W q1 q2 (h1 : IsSet W W.heap.size (rv q1 U0.length) U0) (h2 : IsSet W W.heap.size (rv q2 U1.length) U1) => union_as hmg h1 h2 (by omega)
  replace hK := Lib.hid hK
  have i0' := i0
  obtain ⟨a0, c0, rfl, -⟩ := i0'
  have i1' := i1
  obtain ⟨a1, c1, rfl, -⟩ := i1'
  have i2' := i2
  obtain ⟨a2, c2, rfl, -⟩ := i2'
  have KK := Below.refl w.heap.size w
  clear hmg hU0 hU1 hul0 hul1 hulK
  obtain ⟨N0, hN0⟩ : ∃ n, n = l0.length := ⟨_, rfl⟩
  obtain ⟨N1, hN1⟩ : ∃ n, n = l1.length := ⟨_, rfl⟩
  obtain ⟨N2, hN2⟩ : ∃ n, n = l2.length := ⟨_, rfl⟩
  have x0 := fun (i : Nat) (hi : i < N0) => And.intro (i0.at (by omega)) (i0.wf _ (getD_mem (i := i) (by omega)))
  have x1 := fun (i : Nat) (hi : i < N1) => And.intro (i1.at (by omega)) (i1.wf _ (getD_mem (i := i) (by omega)))
  have x2 := fun (i : Nat) (hi : i < N2) => And.intro (i2.at (by omega)) (i2.wf _ (getD_mem (i := i) (by omega)))
  rw [← hN0] at bd i0 H0 ⊢
  rw [← hN1] at bd i1 H1 ⊢
  rw [← hN2] at bd i2 ⊢
  replace x0 := Lib.hid x0
  replace x1 := Lib.hid x1
  replace x2 := Lib.hid x2
  replace hN0 := Lib.hid hN0
  replace hN1 := Lib.hid hN1
  replace hN2 := Lib.hid hN2
  go_enter Try.func6, Try.ntmps6
  go_wp2_with (first
    | (go_at_call 8; with_reducible refine (treaped_any _).mono ?_; rintro e wa ⟨rfl, hb⟩; replace KK := st KK hb; clear hb)
    | (go_at_call 21; with_reducible refine (H0 _ KK).mono ?_; clear H0; rintro e wb ⟨⟨q0, rfl, hX0⟩, hb⟩; replace KK := st KK hb; clear hb)
    | (go_at_call 21; with_reducible refine (H1 _ KK).mono ?_; clear H1; rintro e wc ⟨⟨q1, rfl, hX1⟩, hb⟩; replace KK := st KK hb; replace hX0 := hX0.on hb; clear hb)
    | (go_at_call 23; with_reducible refine (HU _ _ _ hX0 hX1).mono ?_; clear HU; rintro e wd ⟨⟨qs, rfl, hX⟩, hb⟩; replace KK := st KK hb; clear hb hX0 hX1))
  have hT0 : Tw w ((wd.alloc (.cells #[.pointer qs, .int .i64 K.length] tyH)).alloc (.cells #[.pointer none, .int .i64 0] tyH)) wd.heap.size (wd.heap.size + 1) qs K none [] := by
    have hb1 := (Below.refl wd.heap.size wd).alloc (Nat.le_refl _) (.cells #[.pointer qs, .int .i64 K.length] tyH)
    have hb2 := hb1.alloc (by simp) (.cells #[.pointer none, .int .i64 0] tyH)
    exact ⟨st KK hb2, (hp.Blk.newAt rfl).alloc _, hX.on hb2, hp.Blk.newAt (by simp), IsSet.nil _ _⟩
  have hγ0 := KK.size
  clear hX KK
  obtain ⟨γ, hγ⟩ : ∃ γ, γ = wd.heap.size := ⟨_, rfl⟩
  rw [← hγ] at hT0 hγ0 ⊢
  clear hγ
  obtain ⟨δ, hδ⟩ : ∃ δ, δ = γ + 1 := ⟨_, rfl⟩
  rw [← hδ] at hT0 ⊢
  have hne : γ ≠ δ := by omega
  have hγ1 : w.heap.size ≤ δ := by omega
  clear hδ
  go_loopg [10] N2 (fun k u W' => ∃ (i : Nat) (S : List Int) (q : Option Addr), u = .int .i64 (i : Int) ∧ i ≤ N2 ∧ k = N2 - i ∧ S.length ≤ i ∧ Hid (∀ z, z ∈ S ↔ z ∈ l2.take i) ∧ Tw w W' γ δ qs K q S)
  case atStart => exact ⟨0, [], none, rfl, Nat.zero_le _, rfl, by simp, by show ∀ _, _; simp, hT0⟩
  case round =>
    clear hT0
    obtain ⟨i, S, q, rfl, hi, hk, hSl, hmem, hT⟩ := hrel
    by_cases hlt : i < N2
    · obtain ⟨⟨g, off, he, hg, hce⟩, hwx⟩ := x2.out i (by omega)
      subst he
      have hcx := (hT.below.cell (p := ⟨g, off + i, none⟩) hg).trans (hce i (by have := hN2.out; omega))
      have hgw : g < wr.heap.size := Nat.lt_of_lt_of_le hg hT.below.size
      obtain ⟨x, hx⟩ : ∃ x, l2.getD i 0 = x := ⟨_, rfl⟩
      rw [hx] at hcx hwx
      have hil := ins_le x S
      obtain ⟨M, hM⟩ : ∃ M, ins x S = M := ⟨_, rfl⟩
      have hmem2 : Hid (∀ z, z ∈ M ↔ z ∈ l2.take (i + 1)) := Lib.hid fun z => by
          rw [← hM, mem_ins, hmem.out z, take_mem (by have := hN2.out; omega), hx]
      rw [hM] at hil
      have hpt := fun W (hW : Below wr.heap.size wr W) => put_as hM (hT.setB.on hW) hwx (by omega)
      have hTB := hT.boxB
      clear hce hx hwx hM hmem
      go_wp2_with fail
      apply rel.region_tail (C := fun w' => Below wr.heap.size wr w') (X := fun w w' => Below w.heap.size w w') 6 (by kernel_rfl) (by kernel_rfl) (by kernel_rfl) (by kernel_rfl) ((Below.refl _ _).drew)
      ((apply rel.walk_val; (focus (intro wq hq hf; (obtain ⟨d0, d1⟩ := ((hTB).below hq (hTB).lt).cells2); go_wp2; refine ⟨hq, Below.refl _ _, ?_, rfl⟩; (show rel.slot _ _ = _; simp only [rel.slot_lit, List.getD_cons_succ, List.getD_cons_zero]; (first | done | exact rfl)))); (simp only [rel.put_lit, List.set_cons_succ, List.set_cons_zero])))
      (apply rel.walk_val; (focus (intro wq hq hf; go_wp2; refine ⟨hq, Below.refl _ _, ?_, rfl⟩; (show rel.slot _ _ = _; simp only [rel.slot_lit, List.getD_cons_succ, List.getD_cons_zero]; (first | done | exact rfl)))); (simp only [rel.put_lit, List.set_cons_succ, List.set_cons_zero]))
      (apply rel.walk_val; (focus (intro wq hq hf; go_wp2; refine ⟨hq, Below.refl _ _, ?_, rfl⟩; (show rel.slot _ _ = _; simp only [rel.slot_lit, List.getD_cons_succ, List.getD_cons_zero]; (first | done | exact rfl)))); (simp only [rel.put_lit, List.set_cons_succ, List.set_cons_zero]))
      (apply rel.walk_val; (focus (intro wq hq hf; go_wp2; refine ⟨hq, Below.refl _ _, ?_, rfl⟩; (show rel.slot _ _ = _; simp only [rel.slot_lit, List.getD_cons_succ, List.getD_cons_zero]; (first | done | exact rfl)))); (simp only [rel.put_lit, List.set_cons_succ, List.set_cons_zero]))
      ((apply rel.walk_val; (focus (intro wq hq hf; (have d0 := (hq.cell (p := ⟨g, off + i, none⟩) hgw).trans hcx); go_wp2; refine ⟨hq, Below.refl _ _, ?_, rfl⟩; (show rel.slot _ _ = _; simp only [rel.slot_lit, List.getD_cons_succ, List.getD_cons_zero]; (first | done | exact rfl)))); (simp only [rel.put_lit, List.set_cons_succ, List.set_cons_zero])))
      (apply rel.walk_rel (fun u w' => trp.IsSet w' w'.heap.size u (M)) ⟨_, rfl⟩ (fun u w1 w2 h1 h2 => h2.on h1); (focus (intro wq hq hf; go_wp2_with (go_at_call 11; with_reducible refine (hpt _ hq).mono ?_; rintro e w'' ⟨⟨u, rfl, hu⟩, hb⟩); refine ⟨hq.trans (hb.mono hq.size), hb, ?_, rfl⟩; (show trp.IsSet _ _ (rel.slot _ _) _; simp only [rel.slot_lit, List.getD_cons_succ, List.getD_cons_zero]; exact hu))); (intro u wu _ hu; obtain ⟨pz, t_pz, rfl, -⟩ := hu; (simp only [rel.put_lit, List.set_cons_succ, List.set_cons_zero])))
      refine rel.walk_nil ?_
      intro w9 K9 hF
      have hu : IsSet w9 w9.heap.size (rv pz M.length) M := hF _ (List.mem_cons_self ..)
      have hT9 := hT.on K9
      obtain ⟨d0, d1⟩ := hT9.boxB.cells2
      have f0 := hT9.boxB.free 0
      have f1 := hT9.boxB.free 1
      clear hF hpt hT hTB
      simp only [List.drop_succ_cons, List.drop_zero]
      go_wp2_with fail
      obtain ⟨W9, hW9, hT8⟩ := hT9.put hne hγ1 hu
      rw [hW9]
      clear hW9 d0 d1 f0 f1 hT9
      go_roundg (N2 - (i + 1))
      case measure => omega
      case rel => exact ⟨i + 1, M, pz, by simp, by omega, rfl, by omega, hmem2, hT8⟩
    · obtain rfl : i = N2 := by omega
      have hmemA : Hid (∀ z, z ∈ S ↔ z ∈ l2) := Lib.hid fun z => by rw [hmem.out z, hN2.out, List.take_length]
      clear hmem hlt hi hk
      go_wp2_with fail
      go_loopg [11] N1 (fun k u W' => ∃ (j : Nat) (S : List Int) (q : Option Addr), u = .int .i64 ((j : Int) - 1) ∧ j ≤ N1 ∧ k = j ∧ S.length + j ≤ i + N1 ∧ Hid (∀ z, z ∈ S ↔ z ∈ l2 ∨ z ∈ l1.drop j) ∧ Tw w W' γ δ qs K q S)
      case atStart => exact ⟨N1, S, q, rfl, Nat.le_refl _, rfl, by omega, Lib.hid (fun z => by rw [hmemA.out z, hN1.out, List.drop_length]; simp), hT⟩
      case round =>
        clear hT hSl hmemA
        obtain ⟨j, S, q, hu, hj, hk, hSl, hmem, hT⟩ := hrel
        rcases j with _ | j
        · obtain rfl : _ = Value.int .i64 (-1) := hu
          have hmemA : Hid (∀ z, z ∈ S ↔ z ∈ l2 ∨ z ∈ l1) := Lib.hid fun z => by rw [hmem.out z, List.drop_zero]
          clear hmem hj hk
          go_wp2_with fail
          go_loopg [12] N0 (fun k u W' => ∃ (j : Nat) (S : List Int) (q : Option Addr), u = .int .i64 ((j : Int) - 1) ∧ j ≤ N0 ∧ k = j ∧ S.length + j ≤ i + N1 + N0 ∧ Hid (∀ z, z ∈ S ↔ (z ∈ l2 ∨ z ∈ l1) ∨ z ∈ l0.drop j) ∧ Tw w W' γ δ qs K q S)
          case atStart => exact ⟨N0, S, q, rfl, Nat.le_refl _, rfl, by omega, Lib.hid (fun z => by rw [hmemA.out z, hN0.out, List.drop_length]; simp), hT⟩
          case round =>
            clear hT hSl hmemA
            obtain ⟨j, S, q, hu, hj, hk, hSl, hmem, hT⟩ := hrel
            rcases j with _ | j
            · obtain rfl : _ = Value.int .i64 (-1) := hu
              have hmemA : Hid (∀ z, z ∈ S ↔ (z ∈ l2 ∨ z ∈ l1) ∨ z ∈ l0) := Lib.hid fun z => by rw [hmem.out z, List.drop_zero]
              have hSl2 : S.length ≤ 1048576 := by omega
              clear hmem hj hk hSl
              go_wp2_with fail
              go_loopg [13] i (fun k u W' => ∃ (n : Nat) (S : List Int) (q : Option Addr), u = .int .i64 (n : Int) ∧ n ≤ i ∧ k = i - n ∧ S.length ≤ 1048576 ∧ Hid (∀ z, z ∈ S ↔ (z ∈ l0 ∨ z ∈ l1) ∨ (z ∈ l2 ∧ z ∉ l2.take n)) ∧ Tw w W' γ δ qs K q S)
              case atStart => exact ⟨0, S, q, rfl, Nat.zero_le _, rfl, hSl2, Lib.hid (fun z => by
                rw [hmemA.out z]
                simp only [List.take_zero, List.not_mem_nil, not_false_eq_true, and_true]
                constructor
                · rintro ((h | h) | h) <;> simp [h]
                · rintro ((h | h) | h) <;> simp [h]), hT⟩
              case round =>
                clear hT hSl2 hmemA
                obtain ⟨n, S, q, rfl, hn, hk, hSl, hmem, hT⟩ := hrel
                by_cases hlt : n < i
                · obtain ⟨⟨g, off, he, hg, hce⟩, hwx⟩ := x2.out n (by omega)
                  subst he
                  have hcx := (hT.below.cell (p := ⟨g, off + n, none⟩) hg).trans (hce n (by have := hN2.out; omega))
                  have hgw : g < wr.heap.size := Nat.lt_of_lt_of_le hg hT.below.size
                  obtain ⟨x, hx⟩ : ∃ x, l2.getD n 0 = x := ⟨_, rfl⟩
                  rw [hx] at hcx hwx
                  have o0 := fun W (hW : Below wr.heap.size wr W) => often_any _ l0 x W ((i0.on hT.below).on hW)
                  have o1 := fun W (hW : Below wr.heap.size wr W) => often_any _ l1 x W ((i1.on hT.below).on hW)
                  have hle0 := oft_le l0 x
                  have hle1 := oft_le l1 x
                  rw [← hN0.out] at hle0
                  rw [← hN1.out] at hle1
                  have hz0 : oft l0 x = 0 ↔ x ∉ l0 := oft_zero
                  have hz1 : oft l1 x = 0 ↔ x ∉ l1 := oft_zero
                  generalize oft l0 x = n0 at *
                  generalize oft l1 x = n1 at *
                  have htk := fun z => take_mem (l := l2) (i := n) (by have := hN2.out; omega) z
                  rw [hx] at htk
                  replace htk := Lib.hid htk
                  by_cases hin : n0 = 0 ∧ n1 = 0
                  · obtain ⟨rfl, rfl⟩ := hin
                    have hxn0 : x ∉ l0 := hz0.1 rfl
                    have hxn1 : x ∉ l1 := hz1.1 rfl
                    have hdl := del_le x S
                    obtain ⟨M, hM⟩ : ∃ M, del x S = M := ⟨_, rfl⟩
                    have hmem2 : Hid (∀ z, z ∈ M ↔ (z ∈ l0 ∨ z ∈ l1) ∨ (z ∈ l2 ∧ z ∉ l2.take (n + 1))) := Lib.hid fun z => by
                      rw [← hM, mem_del, hmem.out z, htk.out z]
                      by_cases hz : z = x
                      · subst hz
                        simp [hxn0, hxn1]
                      · simp [hz]
                    rw [hM] at hdl
                    have hdr := fun W (hW : Below wr.heap.size wr W) => drop_as hM (hT.setB.on hW) hwx (by omega)
                    clear hce hx hM hmem hz0 hz1 hxn0 hxn1 htk hle0 hle1 hwx
                    go_wp2_with fail
                    apply rel.region (C := fun w' => Below wr.heap.size wr w') (X := fun w w' => Below w.heap.size w w') (by kernel_rfl) (by kernel_rfl) (by kernel_rfl) ((Below.refl _ _).drew)
                    (apply rel.walk_val; (focus (intro wq hq hf; go_wp2; refine ⟨hq, Below.refl _ _, ?_, rfl⟩; (show rel.slot _ _ = _; simp only [rel.slot_lit, List.getD_cons_succ, List.getD_cons_zero]; (first | done | exact rfl)))); (simp only [rel.put_lit, List.set_cons_succ, List.set_cons_zero]))
                    (apply rel.walk_val; (focus (intro wq hq hf; go_wp2; refine ⟨hq, Below.refl _ _, ?_, rfl⟩; (show rel.slot _ _ = _; simp only [rel.slot_lit, List.getD_cons_succ, List.getD_cons_zero]; (first | done | exact rfl)))); (simp only [rel.put_lit, List.set_cons_succ, List.set_cons_zero]))
                    (apply rel.walk_val; (focus (intro wq hq hf; go_wp2; refine ⟨hq, Below.refl _ _, ?_, rfl⟩; (show rel.slot _ _ = _; simp only [rel.slot_lit, List.getD_cons_succ, List.getD_cons_zero]; (first | done | exact rfl)))); (simp only [rel.put_lit, List.set_cons_succ, List.set_cons_zero]))
                    (apply rel.walk_val; (focus (intro wq hq hf; go_wp2; refine ⟨hq, Below.refl _ _, ?_, rfl⟩; (show rel.slot _ _ = _; simp only [rel.slot_lit, List.getD_cons_succ, List.getD_cons_zero]; (first | done | exact rfl)))); (simp only [rel.put_lit, List.set_cons_succ, List.set_cons_zero]))
                    ((apply rel.walk_val; (focus (intro wq hq hf; (have d0 := (hq.cell (p := ⟨g, off + n, none⟩) hgw).trans hcx); go_wp2; refine ⟨hq, Below.refl _ _, ?_, rfl⟩; (show rel.slot _ _ = _; simp only [rel.slot_lit, List.getD_cons_succ, List.getD_cons_zero]; (first | done | exact rfl)))); (simp only [rel.put_lit, List.set_cons_succ, List.set_cons_zero])))
                    (apply rel.walk_val; (focus (intro wq hq hf; go_wp2_with (go_at_call 18; refine (o0 _ hq).mono ?_; rintro e w'' ⟨rfl, hb⟩); refine ⟨hq.trans (hb.mono hq.size), hb, ?_, rfl⟩; (show rel.slot _ _ = _; simp only [rel.slot_lit, List.getD_cons_succ, List.getD_cons_zero]; (first | done | exact rfl)))); (simp only [rel.put_lit, List.set_cons_succ, List.set_cons_zero]))
                    (apply rel.walk_val; (focus (intro wq hq hf; go_wp2; refine ⟨hq, Below.refl _ _, ?_, rfl⟩; (show rel.slot _ _ = _; simp only [rel.slot_lit, List.getD_cons_succ, List.getD_cons_zero]; (first | done | exact rfl)))); (simp only [rel.put_lit, List.set_cons_succ, List.set_cons_zero]))
                    (apply rel.walk_val; (focus (intro wq hq hf; go_wp2; refine ⟨hq, Below.refl _ _, ?_, rfl⟩; (show rel.slot _ _ = _; simp only [rel.slot_lit, List.getD_cons_succ, List.getD_cons_zero]; (first | done | exact rfl)))); (simp only [rel.put_lit, List.set_cons_succ, List.set_cons_zero]))
                    (apply rel.walk_val; (focus (intro wq hq hf; go_wp2; refine ⟨hq, Below.refl _ _, ?_, rfl⟩; (show rel.slot _ _ = _; simp only [rel.slot_lit, List.getD_cons_succ, List.getD_cons_zero]; (first | done | exact rfl)))); (simp only [rel.put_lit, List.set_cons_succ, List.set_cons_zero]))
                    (apply rel.walk_val; (focus (intro wq hq hf; go_wp2; refine ⟨hq, Below.refl _ _, ?_, rfl⟩; (show rel.slot _ _ = _; simp only [rel.slot_lit, List.getD_cons_succ, List.getD_cons_zero]; (first | done | exact rfl)))); (simp only [rel.put_lit, List.set_cons_succ, List.set_cons_zero]))
                    ((apply rel.walk_val; (focus (intro wq hq hf; (have d0 := (hq.cell (p := ⟨g, off + n, none⟩) hgw).trans hcx); go_wp2; refine ⟨hq, Below.refl _ _, ?_, rfl⟩; (show rel.slot _ _ = _; simp only [rel.slot_lit, List.getD_cons_succ, List.getD_cons_zero]; (first | done | exact rfl)))); (simp only [rel.put_lit, List.set_cons_succ, List.set_cons_zero])))
                    (apply rel.walk_val; (focus (intro wq hq hf; go_wp2_with (go_at_call 18; refine (o1 _ hq).mono ?_; rintro e w'' ⟨rfl, hb⟩); refine ⟨hq.trans (hb.mono hq.size), hb, ?_, rfl⟩; (show rel.slot _ _ = _; simp only [rel.slot_lit, List.getD_cons_succ, List.getD_cons_zero]; (first | done | exact rfl)))); (simp only [rel.put_lit, List.set_cons_succ, List.set_cons_zero]))
                    (apply rel.walk_val; (focus (intro wq hq hf; go_wp2; refine ⟨hq, Below.refl _ _, ?_, rfl⟩; (show rel.slot _ _ = _; simp only [rel.slot_lit, List.getD_cons_succ, List.getD_cons_zero]; (first | done | exact rfl)))); (simp only [rel.put_lit, List.set_cons_succ, List.set_cons_zero]))
                    (apply rel.walk_val; (focus (intro wq hq hf; go_wp2; refine ⟨hq, Below.refl _ _, ?_, rfl⟩; (show rel.slot _ _ = _; simp only [rel.slot_lit, List.getD_cons_succ, List.getD_cons_zero]; (first | done | exact rfl)))); (simp only [rel.put_lit, List.set_cons_succ, List.set_cons_zero]))
                    refine rel.walk_nil ?_
                    intro w8 K8 hF
                    clear hF o0 o1
                    have hT2 := hT.on K8
                    have hTB := hT2.boxB
                    replace hdr := fun W (hW : Below w8.heap.size w8 W) => hdr W (K8.trans (hW.mono K8.size))
                    replace hcx := (K8.cell (p := ⟨g, off + n, none⟩) hgw).trans hcx
                    replace hgw := Nat.lt_of_lt_of_le hgw K8.size
                    replace hT := hT2
                    clear hT2 K8
                    go_wp2_with fail
                    apply rel.region_tail (C := fun w' => Below w8.heap.size w8 w') (X := fun w w' => Below w.heap.size w w') 6 (by kernel_rfl) (by kernel_rfl) (by kernel_rfl) (by kernel_rfl) ((Below.refl _ _).drew)
                    ((apply rel.walk_val; (focus (intro wq hq hf; (obtain ⟨d0, d1⟩ := ((hTB).below hq (hTB).lt).cells2); go_wp2; refine ⟨hq, Below.refl _ _, ?_, rfl⟩; (show rel.slot _ _ = _; simp only [rel.slot_lit, List.getD_cons_succ, List.getD_cons_zero]; (first | done | exact rfl)))); (simp only [rel.put_lit, List.set_cons_succ, List.set_cons_zero])))
                    (apply rel.walk_val; (focus (intro wq hq hf; go_wp2; refine ⟨hq, Below.refl _ _, ?_, rfl⟩; (show rel.slot _ _ = _; simp only [rel.slot_lit, List.getD_cons_succ, List.getD_cons_zero]; (first | done | exact rfl)))); (simp only [rel.put_lit, List.set_cons_succ, List.set_cons_zero]))
                    (apply rel.walk_val; (focus (intro wq hq hf; go_wp2; refine ⟨hq, Below.refl _ _, ?_, rfl⟩; (show rel.slot _ _ = _; simp only [rel.slot_lit, List.getD_cons_succ, List.getD_cons_zero]; (first | done | exact rfl)))); (simp only [rel.put_lit, List.set_cons_succ, List.set_cons_zero]))
                    (apply rel.walk_val; (focus (intro wq hq hf; go_wp2; refine ⟨hq, Below.refl _ _, ?_, rfl⟩; (show rel.slot _ _ = _; simp only [rel.slot_lit, List.getD_cons_succ, List.getD_cons_zero]; (first | done | exact rfl)))); (simp only [rel.put_lit, List.set_cons_succ, List.set_cons_zero]))
                    ((apply rel.walk_val; (focus (intro wq hq hf; (have d0 := (hq.cell (p := ⟨g, off + n, none⟩) hgw).trans hcx); go_wp2; refine ⟨hq, Below.refl _ _, ?_, rfl⟩; (show rel.slot _ _ = _; simp only [rel.slot_lit, List.getD_cons_succ, List.getD_cons_zero]; (first | done | exact rfl)))); (simp only [rel.put_lit, List.set_cons_succ, List.set_cons_zero])))
                    (apply rel.walk_rel (fun u w' => trp.IsSet w' w'.heap.size u (M)) ⟨_, rfl⟩ (fun u w1 w2 h1 h2 => h2.on h1); (focus (intro wq hq hf; go_wp2_with (go_at_call 9; with_reducible refine (hdr _ hq).mono ?_; rintro e w'' ⟨⟨u, rfl, hu⟩, hb⟩); refine ⟨hq.trans (hb.mono hq.size), hb, ?_, rfl⟩; (show trp.IsSet _ _ (rel.slot _ _) _; simp only [rel.slot_lit, List.getD_cons_succ, List.getD_cons_zero]; exact hu))); (intro u wu _ hu; obtain ⟨pz, t_pz, rfl, -⟩ := hu; (simp only [rel.put_lit, List.set_cons_succ, List.set_cons_zero])))
                    refine rel.walk_nil ?_
                    intro w9 K9 hF
                    have hu : IsSet w9 w9.heap.size (rv pz M.length) M := hF _ (List.mem_cons_self ..)
                    have hT9 := hT.on K9
                    obtain ⟨d0, d1⟩ := hT9.boxB.cells2
                    have f0 := hT9.boxB.free 0
                    have f1 := hT9.boxB.free 1
                    clear hF hdr hT hTB
                    simp only [List.drop_succ_cons, List.drop_zero]
                    go_wp2_with fail
                    obtain ⟨W9, hW9, hT8⟩ := hT9.put hne hγ1 hu
                    rw [hW9]
                    clear hW9 d0 d1 f0 f1 hT9
                    go_roundg (i - (n + 1))
                    case measure => omega
                    case rel => exact ⟨n + 1, M, pz, by simp, by omega, rfl, by omega, hmem2, hT8⟩
                  · have hxin : x ∈ l0 ∨ x ∈ l1 := by
                      by_cases h0 : x ∈ l0
                      · exact .inl h0
                      · by_cases h1 : x ∈ l1
                        · exact .inr h1
                        · exact absurd ⟨hz0.2 h0, hz1.2 h1⟩ hin
                    have hmem2 : Hid (∀ z, z ∈ S ↔ (z ∈ l0 ∨ z ∈ l1) ∨ (z ∈ l2 ∧ z ∉ l2.take (n + 1))) := Lib.hid fun z => by
                      rw [hmem.out z, htk.out z]
                      by_cases hz : z = x
                      · subst hz
                        simp [hxin]
                      · simp [hz]
                    have hsum : ((n0 : Int) + (n1 : Int) == 0) = false := by rw [beq_eq_false_iff_ne]; omega
                    have hsum2 : ¬ ((n0 : Int) + (n1 : Int) = 0) := by omega
                    clear hce hx hmem hz0 hz1 hxin htk hwx hin
                    go_wp2_with fail
                    apply rel.region (C := fun w' => Below wr.heap.size wr w') (X := fun w w' => Below w.heap.size w w') (by kernel_rfl) (by kernel_rfl) (by kernel_rfl) ((Below.refl _ _).drew)
                    (apply rel.walk_val; (focus (intro wq hq hf; go_wp2; refine ⟨hq, Below.refl _ _, ?_, rfl⟩; (show rel.slot _ _ = _; simp only [rel.slot_lit, List.getD_cons_succ, List.getD_cons_zero]; (first | done | exact rfl)))); (simp only [rel.put_lit, List.set_cons_succ, List.set_cons_zero]))
                    (apply rel.walk_val; (focus (intro wq hq hf; go_wp2; refine ⟨hq, Below.refl _ _, ?_, rfl⟩; (show rel.slot _ _ = _; simp only [rel.slot_lit, List.getD_cons_succ, List.getD_cons_zero]; (first | done | exact rfl)))); (simp only [rel.put_lit, List.set_cons_succ, List.set_cons_zero]))
                    (apply rel.walk_val; (focus (intro wq hq hf; go_wp2; refine ⟨hq, Below.refl _ _, ?_, rfl⟩; (show rel.slot _ _ = _; simp only [rel.slot_lit, List.getD_cons_succ, List.getD_cons_zero]; (first | done | exact rfl)))); (simp only [rel.put_lit, List.set_cons_succ, List.set_cons_zero]))
                    (apply rel.walk_val; (focus (intro wq hq hf; go_wp2; refine ⟨hq, Below.refl _ _, ?_, rfl⟩; (show rel.slot _ _ = _; simp only [rel.slot_lit, List.getD_cons_succ, List.getD_cons_zero]; (first | done | exact rfl)))); (simp only [rel.put_lit, List.set_cons_succ, List.set_cons_zero]))
                    ((apply rel.walk_val; (focus (intro wq hq hf; (have d0 := (hq.cell (p := ⟨g, off + n, none⟩) hgw).trans hcx); go_wp2; refine ⟨hq, Below.refl _ _, ?_, rfl⟩; (show rel.slot _ _ = _; simp only [rel.slot_lit, List.getD_cons_succ, List.getD_cons_zero]; (first | done | exact rfl)))); (simp only [rel.put_lit, List.set_cons_succ, List.set_cons_zero])))
                    (apply rel.walk_val; (focus (intro wq hq hf; go_wp2_with (go_at_call 18; refine (o0 _ hq).mono ?_; rintro e w'' ⟨rfl, hb⟩); refine ⟨hq.trans (hb.mono hq.size), hb, ?_, rfl⟩; (show rel.slot _ _ = _; simp only [rel.slot_lit, List.getD_cons_succ, List.getD_cons_zero]; (first | done | exact rfl)))); (simp only [rel.put_lit, List.set_cons_succ, List.set_cons_zero]))
                    (apply rel.walk_val; (focus (intro wq hq hf; go_wp2; refine ⟨hq, Below.refl _ _, ?_, rfl⟩; (show rel.slot _ _ = _; simp only [rel.slot_lit, List.getD_cons_succ, List.getD_cons_zero]; (first | done | exact rfl)))); (simp only [rel.put_lit, List.set_cons_succ, List.set_cons_zero]))
                    (apply rel.walk_val; (focus (intro wq hq hf; go_wp2; refine ⟨hq, Below.refl _ _, ?_, rfl⟩; (show rel.slot _ _ = _; simp only [rel.slot_lit, List.getD_cons_succ, List.getD_cons_zero]; (first | done | exact rfl)))); (simp only [rel.put_lit, List.set_cons_succ, List.set_cons_zero]))
                    (apply rel.walk_val; (focus (intro wq hq hf; go_wp2; refine ⟨hq, Below.refl _ _, ?_, rfl⟩; (show rel.slot _ _ = _; simp only [rel.slot_lit, List.getD_cons_succ, List.getD_cons_zero]; (first | done | exact rfl)))); (simp only [rel.put_lit, List.set_cons_succ, List.set_cons_zero]))
                    (apply rel.walk_val; (focus (intro wq hq hf; go_wp2; refine ⟨hq, Below.refl _ _, ?_, rfl⟩; (show rel.slot _ _ = _; simp only [rel.slot_lit, List.getD_cons_succ, List.getD_cons_zero]; (first | done | exact rfl)))); (simp only [rel.put_lit, List.set_cons_succ, List.set_cons_zero]))
                    ((apply rel.walk_val; (focus (intro wq hq hf; (have d0 := (hq.cell (p := ⟨g, off + n, none⟩) hgw).trans hcx); go_wp2; refine ⟨hq, Below.refl _ _, ?_, rfl⟩; (show rel.slot _ _ = _; simp only [rel.slot_lit, List.getD_cons_succ, List.getD_cons_zero]; (first | done | exact rfl)))); (simp only [rel.put_lit, List.set_cons_succ, List.set_cons_zero])))
                    (apply rel.walk_val; (focus (intro wq hq hf; go_wp2_with (go_at_call 18; refine (o1 _ hq).mono ?_; rintro e w'' ⟨rfl, hb⟩); refine ⟨hq.trans (hb.mono hq.size), hb, ?_, rfl⟩; (show rel.slot _ _ = _; simp only [rel.slot_lit, List.getD_cons_succ, List.getD_cons_zero]; (first | done | exact rfl)))); (simp only [rel.put_lit, List.set_cons_succ, List.set_cons_zero]))
                    (apply rel.walk_val; (focus (intro wq hq hf; go_wp2; refine ⟨hq, Below.refl _ _, ?_, rfl⟩; (show rel.slot _ _ = _; simp only [rel.slot_lit, List.getD_cons_succ, List.getD_cons_zero]; (first | done | exact rfl)))); (simp only [rel.put_lit, List.set_cons_succ, List.set_cons_zero]))
                    (apply rel.walk_val; (focus (intro wq hq hf; go_wp2; refine ⟨hq, Below.refl _ _, ?_, rfl⟩; (show rel.slot _ _ = _; simp only [rel.slot_lit, List.getD_cons_succ, List.getD_cons_zero]; (first | done | exact rfl)))); (simp only [rel.put_lit, List.set_cons_succ, List.set_cons_zero]))
                    refine rel.walk_nil ?_
                    intro w8 K8 hF
                    clear hF o0 o1
                    have hT2 := hT.on K8
                    clear K8 hcx hgw
                    go_wp2_with fail
                    go_roundg (i - (n + 1))
                    case measure => omega
                    case rel => exact ⟨n + 1, S, q, by simp, by omega, rfl, hSl, hmem2, hT2⟩
                · obtain rfl : n = i := by omega
                  obtain rfl : S = K := hT.setB.asc.one hKa.out fun z => by
                    rw [hmem.out z, hKm.out z, hN2.out, List.take_length]
                    simp
                  clear hmem hlt hn hk hSl
                  have hA := hT.boxA
                  have hB := hT.boxB
                  obtain ⟨ps, T, -, -, hTp, hTk, -⟩ := hT.setA
                  have hs1 := fun W (hW : Below wr.heap.size wr W) => shape_one (hT.setA.on hW) hTp hTk hKl
                  have hs2 := fun W (hW : Below wr.heap.size wr W) => shape_one (hT.setB.on hW) hTp hTk hKl
                  have hNl : (shp T 0).length < 4611686018427387904 := by rw [shp_len, hTk]; omega
                  generalize shp T 0 = NS at *
                  have hne2 := fun W v0 v1 (h0 : IsNds W W.heap.size v0 NS) (h1 : IsNds W W.heap.size v1 NS) => nodes_eq h0 h1 hNl
                  clear hTp hTk
                  go_wp2_with fail
                  apply rel.region (C := fun w' => Below wr.heap.size wr w') (X := fun w w' => Below w.heap.size w w') (by kernel_rfl) (by kernel_rfl) (by kernel_rfl) ((Below.refl _ _).drew)
                  ((apply rel.walk_val; (focus (intro wq hq hf; (obtain ⟨d0, d1⟩ := ((hA).below hq (hA).lt).cells2); go_wp2; refine ⟨hq, Below.refl _ _, ?_, rfl⟩; (show rel.slot _ _ = _; simp only [rel.slot_lit, List.getD_cons_succ, List.getD_cons_zero]; (first | done | exact rfl)))); (simp only [rel.put_lit, List.set_cons_succ, List.set_cons_zero])))
                  (apply rel.walk_rel (fun u w' => sch.IsNds w' w'.heap.size u (NS)) ⟨_, rfl⟩ (fun u w1 w2 h1 h2 => h2.on h1); (focus (intro wq hq hf; go_wp2_with (go_at_call 20; with_reducible refine (hs1 _ hq).mono ?_; rintro e w'' ⟨⟨u, rfl, hu⟩, hb⟩); refine ⟨hq.trans (hb.mono hq.size), hb, ?_, rfl⟩; (show sch.IsNds _ _ (rel.slot _ _) _; simp only [rel.slot_lit, List.getD_cons_succ, List.getD_cons_zero]; exact hu))); (intro u wu _ hu; obtain ⟨ps1, c_ps1, rfl, -⟩ := hu; (simp only [rel.put_lit, List.set_cons_succ, List.set_cons_zero])))
                  ((apply rel.walk_val; (focus (intro wq hq hf; (obtain ⟨d0, d1⟩ := ((hB).below hq (hB).lt).cells2); go_wp2; refine ⟨hq, Below.refl _ _, ?_, rfl⟩; (show rel.slot _ _ = _; simp only [rel.slot_lit, List.getD_cons_succ, List.getD_cons_zero]; (first | done | exact rfl)))); (simp only [rel.put_lit, List.set_cons_succ, List.set_cons_zero])))
                  (apply rel.walk_rel (fun u w' => sch.IsNds w' w'.heap.size u (NS)) ⟨_, rfl⟩ (fun u w1 w2 h1 h2 => h2.on h1); (focus (intro wq hq hf; go_wp2_with (go_at_call 20; with_reducible refine (hs2 _ hq).mono ?_; rintro e w'' ⟨⟨u, rfl, hu⟩, hb⟩); refine ⟨hq.trans (hb.mono hq.size), hb, ?_, rfl⟩; (show sch.IsNds _ _ (rel.slot _ _) _; simp only [rel.slot_lit, List.getD_cons_succ, List.getD_cons_zero]; exact hu))); (intro u wu _ hu; obtain ⟨ps2, c_ps2, rfl, -⟩ := hu; (simp only [rel.put_lit, List.set_cons_succ, List.set_cons_zero])))
                  (apply rel.walk_val; (focus (intro wq hq hf; go_wp2_with (go_at_call 24; refine (hne2 _ _ _ (hf.get 1 rfl rfl) (hf.get 0 rfl rfl)).mono ?_; rintro e w'' ⟨rfl, hb⟩); refine ⟨hq.trans (hb.mono hq.size), hb, ?_, rfl⟩; (show rel.slot _ _ = _; simp only [rel.slot_lit, List.getD_cons_succ, List.getD_cons_zero]; (first | done | exact rfl)))); (simp only [rel.put_lit, List.set_cons_succ, List.set_cons_zero]))
                  (apply rel.walk_val; (focus (intro wq hq hf; go_wp2; refine ⟨hq, Below.refl _ _, ?_, rfl⟩; (show rel.slot _ _ = _; simp only [rel.slot_lit, List.getD_cons_succ, List.getD_cons_zero]; (first | done | exact rfl)))); (simp only [rel.put_lit, List.set_cons_succ, List.set_cons_zero]))
                  refine rel.walk_nil ?_
                  intro w8 K8 hF
                  clear hF hs1 hs2 hne2 hA hB
                  have hT2 := hT.on K8
                  obtain ⟨d0, d1⟩ := hT2.boxA.cells2
                  have hlen0 := hN0.out
                  have hlen1 := hN1.out
                  have hints := ints_any hT2.setA (by omega)
                  have hLl : (l0 ++ l1).length ≤ 1048576 := by rw [List.length_append]; omega
                  have hKK := hK.out
                  obtain ⟨L, hL⟩ : ∃ L, l0 ++ l1 = L := ⟨_, rfl⟩
                  rw [hL] at hLl hKK
                  replace hL := Lib.hid hL
                  have hcat := fun W (hW : Below w8.heap.size w8 W) => same.cat_eq (t := L) hL.out ((i0.on hT2.below).on hW) ((i1.on hT2.below).on hW) (by omega)
                  have honce := fun W u (hu : hp.IsInts W W.heap.size u L) => once_any hu (by omega)
                  rw [hKK] at honce
                  clear hKK hLl
                  have hbd2 := hT2.below
                  clear hT hlen0 hlen1
                  go_wp2_with (first
                    | (go_at_call 15; (with_reducible refine hints.mono ?_); clear hints; rintro e w7 ⟨⟨u, rfl, hu1⟩, hb7⟩; have hu1' := hu1; obtain ⟨ai, ci, rfl, -⟩ := hu1')
                    | (go_at_call 13; (with_reducible refine (hcat _ hb7).mono ?_); clear hcat; rintro e w6 ⟨⟨u, rfl, hu2⟩, hb6⟩; have hu2' := hu2; obtain ⟨aj, cj, rfl, -⟩ := hu2'; replace hu1 := hu1.on hb6; replace hb7 := hb7.trans (hb6.mono hb7.size); clear hb6)
                    | (go_at_call 12; (with_reducible refine (honce _ _ hu2).mono ?_); clear honce; rintro e w5 ⟨⟨u, rfl, hu3⟩, hb5⟩; have hu3' := hu3; obtain ⟨ak, ck, rfl, -⟩ := hu3'; replace hu1 := hu1.on hb5; replace hb7 := hb7.trans (hb5.mono hb7.size); clear hb5)
                    | (go_at_call 14; (with_reducible refine (same.ints_eq rfl hu1 hu3).mono ?_); rintro e w4 ⟨rfl, hb4⟩; replace hb7 := hb7.trans (hb4.mono hb7.size); clear hb4))
                  go_ret
                  exact ⟨rfl, hbd2.trans (hb7.mono hbd2.size)⟩
            · replace hu := hu.trans (show Value.int .i64 (((j + 1 : Nat) : Int) - 1) = Value.int .i64 (j : Int) by simp)
              subst hu
              obtain ⟨⟨g, off, he, hg, hce⟩, hwx⟩ := x0.out j (by omega)
              subst he
              have hcx := (hT.below.cell (p := ⟨g, off + j, none⟩) hg).trans (hce j (by have := hN0.out; omega))
              have hgw : g < wr.heap.size := Nat.lt_of_lt_of_le hg hT.below.size
              obtain ⟨x, hx⟩ : ∃ x, l0.getD j 0 = x := ⟨_, rfl⟩
              rw [hx] at hcx hwx
              have hil := ins_le x S
              obtain ⟨M, hM⟩ : ∃ M, ins x S = M := ⟨_, rfl⟩
              have hmem2 : Hid (∀ z, z ∈ M ↔ (z ∈ l2 ∨ z ∈ l1) ∨ z ∈ l0.drop j) := Lib.hid fun z => by
                  rw [← hM, mem_ins, hmem.out z, drop_mem (l := l0) (i := j) (by have := hN0.out; omega), hx]
                  constructor
                  · rintro (h | h | h) <;> simp [h]
                  · rintro (h | h | h) <;> simp [h]
              rw [hM] at hil
              have hpt := fun W (hW : Below wr.heap.size wr W) => put_as hM (hT.setB.on hW) hwx (by omega)
              have hTB := hT.boxB
              clear hce hx hwx hM hmem
              go_wp2_with fail
              apply rel.region_tail (C := fun w' => Below wr.heap.size wr w') (X := fun w w' => Below w.heap.size w w') 6 (by kernel_rfl) (by kernel_rfl) (by kernel_rfl) (by kernel_rfl) ((Below.refl _ _).drew)
              ((apply rel.walk_val; (focus (intro wq hq hf; (obtain ⟨d0, d1⟩ := ((hTB).below hq (hTB).lt).cells2); go_wp2; refine ⟨hq, Below.refl _ _, ?_, rfl⟩; (show rel.slot _ _ = _; simp only [rel.slot_lit, List.getD_cons_succ, List.getD_cons_zero]; (first | done | exact rfl)))); (simp only [rel.put_lit, List.set_cons_succ, List.set_cons_zero])))
              (apply rel.walk_val; (focus (intro wq hq hf; go_wp2; refine ⟨hq, Below.refl _ _, ?_, rfl⟩; (show rel.slot _ _ = _; simp only [rel.slot_lit, List.getD_cons_succ, List.getD_cons_zero]; (first | done | exact rfl)))); (simp only [rel.put_lit, List.set_cons_succ, List.set_cons_zero]))
              (apply rel.walk_val; (focus (intro wq hq hf; go_wp2; refine ⟨hq, Below.refl _ _, ?_, rfl⟩; (show rel.slot _ _ = _; simp only [rel.slot_lit, List.getD_cons_succ, List.getD_cons_zero]; (first | done | exact rfl)))); (simp only [rel.put_lit, List.set_cons_succ, List.set_cons_zero]))
              (apply rel.walk_val; (focus (intro wq hq hf; go_wp2; refine ⟨hq, Below.refl _ _, ?_, rfl⟩; (show rel.slot _ _ = _; simp only [rel.slot_lit, List.getD_cons_succ, List.getD_cons_zero]; (first | done | exact rfl)))); (simp only [rel.put_lit, List.set_cons_succ, List.set_cons_zero]))
              ((apply rel.walk_val; (focus (intro wq hq hf; (have d0 := (hq.cell (p := ⟨g, off + j, none⟩) hgw).trans hcx); go_wp2; refine ⟨hq, Below.refl _ _, ?_, rfl⟩; (show rel.slot _ _ = _; simp only [rel.slot_lit, List.getD_cons_succ, List.getD_cons_zero]; (first | done | exact rfl)))); (simp only [rel.put_lit, List.set_cons_succ, List.set_cons_zero])))
              (apply rel.walk_rel (fun u w' => trp.IsSet w' w'.heap.size u (M)) ⟨_, rfl⟩ (fun u w1 w2 h1 h2 => h2.on h1); (focus (intro wq hq hf; go_wp2_with (go_at_call 11; with_reducible refine (hpt _ hq).mono ?_; rintro e w'' ⟨⟨u, rfl, hu⟩, hb⟩); refine ⟨hq.trans (hb.mono hq.size), hb, ?_, rfl⟩; (show trp.IsSet _ _ (rel.slot _ _) _; simp only [rel.slot_lit, List.getD_cons_succ, List.getD_cons_zero]; exact hu))); (intro u wu _ hu; obtain ⟨pz, t_pz, rfl, -⟩ := hu; (simp only [rel.put_lit, List.set_cons_succ, List.set_cons_zero])))
              refine rel.walk_nil ?_
              intro w9 K9 hF
              have hu : IsSet w9 w9.heap.size (rv pz M.length) M := hF _ (List.mem_cons_self ..)
              have hT9 := hT.on K9
              obtain ⟨d0, d1⟩ := hT9.boxB.cells2
              have f0 := hT9.boxB.free 0
              have f1 := hT9.boxB.free 1
              clear hF hpt hT hTB
              simp only [List.drop_succ_cons, List.drop_zero]
              go_wp2_with fail
              obtain ⟨W9, hW9, hT8⟩ := hT9.put hne hγ1 hu
              rw [hW9]
              clear hW9 d0 d1 f0 f1 hT9
              go_roundg j
              case measure => omega
              case rel => exact ⟨j, M, pz, by simp, by omega, rfl, by omega, hmem2, hT8⟩
        · replace hu := hu.trans (show Value.int .i64 (((j + 1 : Nat) : Int) - 1) = Value.int .i64 (j : Int) by simp)
          subst hu
          obtain ⟨⟨g, off, he, hg, hce⟩, hwx⟩ := x1.out j (by omega)
          subst he
          have hcx := (hT.below.cell (p := ⟨g, off + j, none⟩) hg).trans (hce j (by have := hN1.out; omega))
          have hgw : g < wr.heap.size := Nat.lt_of_lt_of_le hg hT.below.size
          obtain ⟨x, hx⟩ : ∃ x, l1.getD j 0 = x := ⟨_, rfl⟩
          rw [hx] at hcx hwx
          have hil := ins_le x S
          obtain ⟨M, hM⟩ : ∃ M, ins x S = M := ⟨_, rfl⟩
          have hmem2 : Hid (∀ z, z ∈ M ↔ z ∈ l2 ∨ z ∈ l1.drop j) := Lib.hid fun z => by
              rw [← hM, mem_ins, hmem.out z, drop_mem (l := l1) (i := j) (by have := hN1.out; omega), hx]
              constructor
              · rintro (h | h | h) <;> simp [h]
              · rintro (h | h | h) <;> simp [h]
          rw [hM] at hil
          have hpt := fun W (hW : Below wr.heap.size wr W) => put_as hM (hT.setB.on hW) hwx (by omega)
          have hTB := hT.boxB
          clear hce hx hwx hM hmem
          go_wp2_with fail
          apply rel.region_tail (C := fun w' => Below wr.heap.size wr w') (X := fun w w' => Below w.heap.size w w') 6 (by kernel_rfl) (by kernel_rfl) (by kernel_rfl) (by kernel_rfl) ((Below.refl _ _).drew)
          ((apply rel.walk_val; (focus (intro wq hq hf; (obtain ⟨d0, d1⟩ := ((hTB).below hq (hTB).lt).cells2); go_wp2; refine ⟨hq, Below.refl _ _, ?_, rfl⟩; (show rel.slot _ _ = _; simp only [rel.slot_lit, List.getD_cons_succ, List.getD_cons_zero]; (first | done | exact rfl)))); (simp only [rel.put_lit, List.set_cons_succ, List.set_cons_zero])))
          (apply rel.walk_val; (focus (intro wq hq hf; go_wp2; refine ⟨hq, Below.refl _ _, ?_, rfl⟩; (show rel.slot _ _ = _; simp only [rel.slot_lit, List.getD_cons_succ, List.getD_cons_zero]; (first | done | exact rfl)))); (simp only [rel.put_lit, List.set_cons_succ, List.set_cons_zero]))
          (apply rel.walk_val; (focus (intro wq hq hf; go_wp2; refine ⟨hq, Below.refl _ _, ?_, rfl⟩; (show rel.slot _ _ = _; simp only [rel.slot_lit, List.getD_cons_succ, List.getD_cons_zero]; (first | done | exact rfl)))); (simp only [rel.put_lit, List.set_cons_succ, List.set_cons_zero]))
          (apply rel.walk_val; (focus (intro wq hq hf; go_wp2; refine ⟨hq, Below.refl _ _, ?_, rfl⟩; (show rel.slot _ _ = _; simp only [rel.slot_lit, List.getD_cons_succ, List.getD_cons_zero]; (first | done | exact rfl)))); (simp only [rel.put_lit, List.set_cons_succ, List.set_cons_zero]))
          ((apply rel.walk_val; (focus (intro wq hq hf; (have d0 := (hq.cell (p := ⟨g, off + j, none⟩) hgw).trans hcx); go_wp2; refine ⟨hq, Below.refl _ _, ?_, rfl⟩; (show rel.slot _ _ = _; simp only [rel.slot_lit, List.getD_cons_succ, List.getD_cons_zero]; (first | done | exact rfl)))); (simp only [rel.put_lit, List.set_cons_succ, List.set_cons_zero])))
          (apply rel.walk_rel (fun u w' => trp.IsSet w' w'.heap.size u (M)) ⟨_, rfl⟩ (fun u w1 w2 h1 h2 => h2.on h1); (focus (intro wq hq hf; go_wp2_with (go_at_call 11; with_reducible refine (hpt _ hq).mono ?_; rintro e w'' ⟨⟨u, rfl, hu⟩, hb⟩); refine ⟨hq.trans (hb.mono hq.size), hb, ?_, rfl⟩; (show trp.IsSet _ _ (rel.slot _ _) _; simp only [rel.slot_lit, List.getD_cons_succ, List.getD_cons_zero]; exact hu))); (intro u wu _ hu; obtain ⟨pz, t_pz, rfl, -⟩ := hu; (simp only [rel.put_lit, List.set_cons_succ, List.set_cons_zero])))
          refine rel.walk_nil ?_
          intro w9 K9 hF
          have hu : IsSet w9 w9.heap.size (rv pz M.length) M := hF _ (List.mem_cons_self ..)
          have hT9 := hT.on K9
          obtain ⟨d0, d1⟩ := hT9.boxB.cells2
          have f0 := hT9.boxB.free 0
          have f1 := hT9.boxB.free 1
          clear hF hpt hT hTB
          simp only [List.drop_succ_cons, List.drop_zero]
          go_wp2_with fail
          obtain ⟨W9, hW9, hT8⟩ := hT9.put hne hγ1 hu
          rw [hW9]
          clear hW9 d0 d1 f0 f1 hT9
          go_roundg j
          case measure => omega
          case rel => exact ⟨j, M, pz, by simp, by omega, rfl, by omega, hmem2, hT8⟩
end Go.Proofs.Ytdlelifidlfalaa.treapOne
