/- The walk of SplayTop. -/
import Derived.Test.YtlaflhnnddfkkaaSplWalks
import Derived.Test.YtlaflhnnddfkkaaSplShape
import Derived.Test.YtlaflhnnddfkkaaSchInner
namespace Go.Proofs.Ytlaflhnnddfkkaa.splayTop
open Go Go.RowKit Go.Proofs.Ytlaflhnnddfkkaa.spl Go.Proofs.Ytlaflhnnddfkkaa.sch
set_option linter.unusedVariables false

theorem has_to {v : Value} {l : List Int} {x : Int} {w : World} {b : Bool} (hv : IsSet w w.heap.size v l) (hb : Hid (b = decide (x ∈ l))) :
    Calls Try.prog 18 #[v, .int .i64 x] w fun e w' => e = .returned (.bool b) ∧ Below w.heap.size w w' := set_has hv hb.out
theorem find_to {v : Value} {l : List Int} {x : Int} {w : World} {b : Bool} (hv : IsSet w w.heap.size v l) (hbd : l.length ≤ 17592186044416) (hb : Hid (b = decide (x ∈ l))) :
    Calls Try.prog 23 #[v, .int .i64 x] w fun e w' => (∃ q, e = .returned (.tuple #[rv q l.length, .bool b]) ∧ IsSetG (Near x l) w' w'.heap.size (rv q l.length) l) ∧ Below w.heap.size w w' := by
  rw [hb.out]
  exact find_any hv hbd
/-- the first node is the one on top -/
theorem shape_top {G : Tr → Prop} {z : Int} {v : Value} {l : List Int} {w : World} (hv : IsSetG G w w.heap.size v l) (hG : ∀ t, G t → Tk z t) (hbd : l.length ≤ 2097152) :
    Calls Try.prog 21 #[v] w fun e w' => (∃ (g N c : Nat) (t : Tr), e = .returned (.slice (some ⟨g, 0, none⟩) N c) ∧ 0 < N ∧ g < w'.heap.size ∧ w'.cell? ⟨g, 0, none⟩ = some (.int .i64 z) ∧ keys t = l ∧ IsNds w' w'.heap.size (.slice (some ⟨g, 0, none⟩) N c) (shp t 0)) ∧ Below w.heap.size w w' := by
  refine (set_shape hv hbd).mono ?_
  rintro e w' ⟨⟨u, t, rfl, hg, hk, hn⟩, hb⟩
  obtain ⟨h1, h2⟩ := hG t hg
  rcases t with _ | ⟨y, m, l, r⟩
  · exact absurd rfl h2
  obtain rfl : y = z := h1
  obtain ⟨ho, hnj, -, -⟩ := (At.top (.node y m l r)).node
  obtain ⟨g, cap, he, hg, q0, -⟩ := hn.at hnj
  subst he
  exact ⟨⟨g, _, cap, .node y m l r, rfl, by omega, hg, by simpa using q0, hk, hn⟩, hb⟩

set_option maxRecDepth 100000 in
set_option maxHeartbeats 16000000 in
theorem walk (v0 : Value) (l0 : List Int) (x : Int) (y : Int) (w : World) (i0 : hp.IsInts w w.heap.size v0 l0) (hx : (Lit.int .i64 x).wf = true) (hy : (Lit.int .i64 y).wf = true) (bd : l0.length ≤ 1048576) :
    Calls Try.prog 5 #[v0, .int .i64 x, .int .i64 y] w fun e w' => e = .returned (.bool true) ∧ Below w.heap.size w w' := by
  have hul := uniq_le l0
  obtain ⟨K, hK⟩ : ∃ K, uniq l0 = K := ⟨_, rfl⟩
  rw [hK] at hul
  have H1 := fun W (hW : Below w.heap.size w W) => of_as hK (i0.on hW) (by omega)
  have hlK : Hid (K.length ≤ 1048576) := Lib.hid (by omega)
  have hlK2 : Hid (K.length ≤ 17592186044416) := Lib.hid (by omega)
  obtain ⟨M, hM⟩ : ∃ M, ins y K = M := ⟨_, rfl⟩
  have hlM : Hid (M.length ≤ 2097152) := Lib.hid (by have := ins_le y K; rw [hM] at this; omega)
  obtain ⟨b, eb⟩ : ∃ b, b = decide (x ∈ K) := ⟨_, rfl⟩
  replace eb := Lib.hid eb
  have H2 := fun W u (hu : IsSet W W.heap.size u K) => find_to hu hlK2.out eb
  have H3 := fun W u (hu : IsSet W W.heap.size u K) => set_put hu hy hlK2.out
  rw [hM] at H3
  have i0' := i0
  obtain ⟨a0, c0, rfl, -⟩ := i0'
  have KK := Below.refl w.heap.size w
  clear hul hK i0 hM bd hx hy
  go_enter Try.func5, Try.ntmps5
  go_wp2_with (first
    | (go_at_call 9; (with_reducible refine (known_any _).mono ?_); rintro e wa ⟨rfl, hb⟩; replace KK := st KK hb; clear hb)
    | (go_at_call 22; (with_reducible refine (H1 _ KK).mono ?_); clear H1; rintro e wb ⟨⟨q1, rfl, hX⟩, hb⟩; have hS := hp.Blk.new wb [.pointer q1, .int .i64 K.length] tyH; replace KK := st (st KK hb) ((Below.refl _ _).alloc (Nat.le_refl _) (.cells #[.pointer q1, .int .i64 K.length] tyH)); replace hX := hX.on ((Below.refl _ _).alloc (Nat.le_refl _) (.cells #[.pointer q1, .int .i64 K.length] tyH)); clear hb; have lS := hS.lt; ((try clear cS dS); obtain ⟨cS, dS⟩ := (hS).cells2))
    | (go_at_call 23; (with_reducible refine (H2 _ _ hX).mono ?_); clear H2; rintro e wd ⟨⟨q2, rfl, hF⟩, hb⟩; have hT := hp.Blk.new wd [.pointer q2, .int .i64 K.length] tyH; replace KK := st (st KK hb) ((Below.refl _ _).alloc (Nat.le_refl _) (.cells #[.pointer q2, .int .i64 K.length] tyH)); replace hF := hF.on ((Below.refl _ _).alloc (Nat.le_refl _) (.cells #[.pointer q2, .int .i64 K.length] tyH)); replace hX := (hX.on hb).on ((Below.refl _ _).alloc (Nat.le_refl _) (.cells #[.pointer q2, .int .i64 K.length] tyH)); replace hS := (hS.on hb).on ((Below.refl _ _).alloc (Nat.le_refl _) (.cells #[.pointer q2, .int .i64 K.length] tyH)); clear hb lS cS dS))
  obtain ⟨W0, hW0⟩ : ∃ W0, wd.alloc (.cells #[.pointer q2, .int .i64 K.length] tyH) = W0 := ⟨_, rfl⟩
  rw [hW0] at hS hT hX hF KK ⊢
  clear hW0
  apply rel.region (C := fun w' => Below W0.heap.size W0 w') (X := fun w w' => Below w.heap.size w w') (by kernel_rfl) (by kernel_rfl) (by kernel_rfl) ((Below.refl _ _).drew)
  ((apply rel.walk_val; (focus (intro wq hq hf; (obtain ⟨d0, d1⟩ := ((hT).below hq (hT).lt).cells2); go_wp2; refine ⟨hq, Below.refl _ _, ?_, rfl⟩; (show rel.slot _ _ = _; simp only [rel.slot_lit, List.getD_cons_succ, List.getD_cons_zero]; (first | done | exact rfl)))); (simp only [rel.put_lit, List.set_cons_succ, List.set_cons_zero])))
  (apply rel.walk_rel (fun u w' => hp.IsInts w' w'.heap.size u (K)) ⟨_, rfl⟩ (fun u w1 w2 h1 h2 => h2.on h1); (focus (intro wq hq hf; go_wp2_with (go_at_call 16; with_reducible refine (ints_any (hF.any.on hq) hlK2.out).mono ?_; rintro e w'' ⟨⟨u, rfl, hu⟩, hb⟩); refine ⟨hq.trans (hb.mono hq.size), hb, ?_, rfl⟩; (show hp.IsInts _ _ (rel.slot _ _) _; simp only [rel.slot_lit, List.getD_cons_succ, List.getD_cons_zero]; exact hu))); (intro u wu _ hu; obtain ⟨pv, c_pv, rfl, -⟩ := hu; (simp only [rel.put_lit, List.set_cons_succ, List.set_cons_zero])))
  ((apply rel.walk_val; (focus (intro wq hq hf; (obtain ⟨d0, d1⟩ := ((hS).below hq (hS).lt).cells2); go_wp2; refine ⟨hq, Below.refl _ _, ?_, rfl⟩; (show rel.slot _ _ = _; simp only [rel.slot_lit, List.getD_cons_succ, List.getD_cons_zero]; (first | done | exact rfl)))); (simp only [rel.put_lit, List.set_cons_succ, List.set_cons_zero])))
  (apply rel.walk_rel (fun u w' => hp.IsInts w' w'.heap.size u (K)) ⟨_, rfl⟩ (fun u w1 w2 h1 h2 => h2.on h1); (focus (intro wq hq hf; go_wp2_with (go_at_call 16; with_reducible refine (ints_any (hX.on hq) hlK2.out).mono ?_; rintro e w'' ⟨⟨u, rfl, hu⟩, hb⟩); refine ⟨hq.trans (hb.mono hq.size), hb, ?_, rfl⟩; (show hp.IsInts _ _ (rel.slot _ _) _; simp only [rel.slot_lit, List.getD_cons_succ, List.getD_cons_zero]; exact hu))); (intro u wu _ hu; obtain ⟨pz, c_pz, rfl, -⟩ := hu; (simp only [rel.put_lit, List.set_cons_succ, List.set_cons_zero])))
  (apply rel.walk_val; (focus (intro wq hq hf; go_wp2_with (go_at_call 15; refine (same.ints_eq rfl (hf.get 1 rfl rfl) (hf.get 0 rfl rfl)).mono ?_; rintro e w'' ⟨rfl, hb⟩); refine ⟨hq.trans (hb.mono hq.size), hb, ?_, rfl⟩; (show rel.slot _ _ = _; simp only [rel.slot_lit, List.getD_cons_succ, List.getD_cons_zero]; (first | done | exact rfl)))); (simp only [rel.put_lit, List.set_cons_succ, List.set_cons_zero]))
  (apply rel.walk_val; (focus (intro wq hq hf; go_wp2; refine ⟨hq, Below.refl _ _, ?_, rfl⟩; (show rel.slot _ _ = _; simp only [rel.slot_lit, List.getD_cons_succ, List.getD_cons_zero]; (first | done | exact rfl)))); (simp only [rel.put_lit, List.set_cons_succ, List.set_cons_zero]))
  refine rel.walk_nil ?_
  intro W1 K9 hF9
  clear hF9
  replace hS := hS.on K9
  replace hT := hT.on K9
  replace hX := hX.on K9
  replace hF := hF.on K9
  replace KK := st KK K9
  clear K9
  have lS := hS.lt
  have lT := hT.lt
  ((try clear cS dS); obtain ⟨cS, dS⟩ := (hS).cells2)
  ((try clear cT dT); obtain ⟨cT, dT⟩ := (hT).cells2)
  cases b with
  | true =>
    have hm : x ∈ K := by simpa using eb.out.symm
    have hsh := shape_top (z := x) hF (fun t ht => ht.tk hm) (Nat.le_trans hlK.out (by decide))
    replace eb := Lib.hid eb.out
    clear hm
    go_wp2_with (first
      | (go_at_call 21; (with_reducible refine hsh.mono ?_); clear hsh; rintro e w2 ⟨⟨g, N, c, t, rfl, hN, hg, hc, hkt, hnd⟩, hb⟩; replace hS := hS.on hb; replace hT := hT.on hb; replace hX := hX.on hb; replace hF := hF.on hb; replace KK := st KK hb; clear hb lS lT cS dS cT dT; have lS := hS.lt; have lT := hT.lt; ((try clear cS dS); obtain ⟨cS, dS⟩ := (hS).cells2); ((try clear cT dT); obtain ⟨cT, dT⟩ := (hT).cells2))
      | (go_at_call 18; (with_reducible refine (has_to hX eb).mono ?_); rintro e w3 ⟨rfl, hb⟩; replace hS := hS.on hb; replace hT := hT.on hb; replace hX := hX.on hb; replace hF := hF.on hb; replace KK := st KK hb; replace hnd := hnd.on hb; replace hc := (hb.cell (p := ⟨g, 0, none⟩) hg).trans hc; replace hg := Nat.lt_of_lt_of_le hg hb.size; clear hb lS lT cS dS cT dT; have lS := hS.lt; have lT := hT.lt; ((try clear cS dS); obtain ⟨cS, dS⟩ := (hS).cells2); ((try clear cT dT); obtain ⟨cT, dT⟩ := (hT).cells2))
      | (go_at_call 16; (with_reducible refine (ints_any hX hlK2.out).mono ?_); rintro e w4 ⟨⟨u, rfl, hI⟩, hb⟩; replace hS := hS.on hb; replace hT := hT.on hb; replace hX := hX.on hb; replace hF := hF.on hb; replace KK := st KK hb; replace hnd := hnd.on hb; clear hb lS lT cS dS cT dT hc hg; have lS := hS.lt; have lT := hT.lt; ((try clear cS dS); obtain ⟨cS, dS⟩ := (hS).cells2); ((try clear cT dT); obtain ⟨cT, dT⟩ := (hT).cells2))
      | (go_at_call 20; (with_reducible refine (shaped_any hnd hI hkt hlK.out).mono ?_); rintro e w5 ⟨rfl, hb⟩; replace hT := hT.on hb; replace hF := hF.on hb; replace KK := st KK hb; clear hb lS lT cS dS cT dT hnd hI hkt hS hX; have lT := hT.lt; ((try clear cT dT); obtain ⟨cT, dT⟩ := (hT).cells2))
      | (go_at_call 12; (with_reducible refine (H3 _ _ hF.any).mono ?_); clear H3; rintro e w6 ⟨⟨q3, rfl, hP⟩, hb⟩; replace KK := st KK hb; clear hb lT cT dT hT hF; have hsp := shape_top (z := y) hP (fun t ht => ht) hlM.out)
      | (go_at_call 21; (with_reducible refine hsp.mono ?_); clear hsp; rintro e w7 ⟨⟨g7, N7, c7, t7, rfl, hN7, hg7, hc7, hkt7, hnd7⟩, hb⟩; replace KK := st KK hb; clear hb))
    go_ret
    exact ⟨rfl, KK⟩
  | false =>
    have hsh := set_shape hF (Nat.le_trans hlK.out (by decide))
    go_wp2_with (first
      | (go_at_call 21; (with_reducible refine hsh.mono ?_); clear hsh; rintro e w2 ⟨⟨u, t, rfl, hNr, hkt, hnd⟩, hb⟩; replace hS := hS.on hb; replace hT := hT.on hb; replace hX := hX.on hb; replace hF := hF.on hb; replace KK := st KK hb; clear hNr hb lS lT cS dS cT dT; have lS := hS.lt; have lT := hT.lt; ((try clear cS dS); obtain ⟨cS, dS⟩ := (hS).cells2); ((try clear cT dT); obtain ⟨cT, dT⟩ := (hT).cells2); have hnd0 := hnd; (obtain ⟨a, c, rfl, -⟩ := hnd0))
      | (go_at_call 18; (with_reducible refine (has_to hX eb).mono ?_); rintro e w3 ⟨rfl, hb⟩; replace hS := hS.on hb; replace hT := hT.on hb; replace hX := hX.on hb; replace hF := hF.on hb; replace KK := st KK hb; replace hnd := hnd.on hb; clear hb lS lT cS dS cT dT; have lS := hS.lt; have lT := hT.lt; ((try clear cS dS); obtain ⟨cS, dS⟩ := (hS).cells2); ((try clear cT dT); obtain ⟨cT, dT⟩ := (hT).cells2))
      | (go_at_call 16; (with_reducible refine (ints_any hX hlK2.out).mono ?_); rintro e w4 ⟨⟨u, rfl, hI⟩, hb⟩; replace hS := hS.on hb; replace hT := hT.on hb; replace hX := hX.on hb; replace hF := hF.on hb; replace KK := st KK hb; replace hnd := hnd.on hb; clear hb lS lT cS dS cT dT; have lS := hS.lt; have lT := hT.lt; ((try clear cS dS); obtain ⟨cS, dS⟩ := (hS).cells2); ((try clear cT dT); obtain ⟨cT, dT⟩ := (hT).cells2))
      | (go_at_call 20; (with_reducible refine (shaped_any hnd hI hkt hlK.out).mono ?_); rintro e w5 ⟨rfl, hb⟩; replace hT := hT.on hb; replace hF := hF.on hb; replace KK := st KK hb; clear hb lS lT cS dS cT dT hnd hI hkt hS hX; have lT := hT.lt; ((try clear cT dT); obtain ⟨cT, dT⟩ := (hT).cells2))
      | (go_at_call 12; (with_reducible refine (H3 _ _ hF.any).mono ?_); clear H3; rintro e w6 ⟨⟨q3, rfl, hP⟩, hb⟩; replace KK := st KK hb; clear hb lT cT dT hT hF; have hsp := shape_top (z := y) hP (fun t ht => ht) hlM.out)
      | (go_at_call 21; (with_reducible refine hsp.mono ?_); clear hsp; rintro e w7 ⟨⟨g, N, c, t, rfl, hN, hg, hc, hkt, hnd⟩, hb⟩; replace KK := st KK hb; clear hb))
    go_ret
    exact ⟨rfl, KK⟩
end Go.Proofs.Ytlaflhnnddfkkaa.splayTop
