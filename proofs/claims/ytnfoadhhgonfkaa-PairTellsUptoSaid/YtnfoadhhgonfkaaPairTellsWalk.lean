/- The walk of PairTells. -/
import Derived.Test.YtnfoadhhgonfkaaParWalks
import Derived.Test.YtnfoadhhgonfkaaSorted
namespace Go.Proofs.Ytnfoadhhgonfkaa.pairTells
open Go Go.RowKit Go.Proofs.Ytnfoadhhgonfkaa.par
open Go.Proofs.Ytnfoadhhgonfkaa.bin (srt srt_perm srt_len srt_rises rises_one srt_eq srt_of)
set_option linter.unusedVariables false

attribute [-go_sem] sliced in
set_option maxRecDepth 100000 in
set_option maxHeartbeats 16000000 in
theorem walk_of (a0 : Option Addr) (n c0 : Nat) (l0 : List Int) (a1 : Option Addr) (m c1 : Nat) (l1 : List Int) (x : Int) (w : World) (i0 : hp.IsInts w w.heap.size (.slice a0 n c0) l0) (i1 : hp.IsInts w w.heap.size (.slice a1 m c1) l1) (hn : Hid (l0.length = n)) (hm : Hid (l1.length = m)) (hx : (Lit.int .i64 x).wf = true) (bd : n + m ≤ 1048576)
    (R XL s0 s1 s2 tl : List Int) (hR : Hid (l0 ++ l1 = R)) (hXL : Hid (x :: l0 = XL)) (z : Int) (h : Bool) (hc : (n = 0 ∧ z = 0 ∧ h = false ∧ tl.length = 0) ∨ (0 < n ∧ h = true ∧ s0 = z :: tl))
    (HI0 : ∀ (W : World) (u : Value), IsHeap W W.heap.size u l0 → Calls Try.prog 12 #[u] W fun e w' => (∃ u, e = .returned u ∧ hp.IsInts w' w'.heap.size u s0) ∧ Below W.heap.size W w')
    (HI1 : ∀ (W : World) (u : Value), IsHeap W W.heap.size u XL → Calls Try.prog 12 #[u] W fun e w' => (∃ u, e = .returned u ∧ hp.IsInts w' w'.heap.size u s1) ∧ Below W.heap.size W w')
    (HI2 : ∀ (W : World) (u : Value), IsHeap W W.heap.size u R → Calls Try.prog 12 #[u] W fun e w' => (∃ u, e = .returned u ∧ hp.IsInts w' w'.heap.size u s2) ∧ Below W.heap.size W w')
    (HS0 : ∀ (W : World) (u : Value), hp.IsInts W W.heap.size u l0 → Calls Try.prog 13 #[u] W fun e w' => (∃ u, e = .returned u ∧ hp.IsInts w' w'.heap.size u s0) ∧ Below W.heap.size W w')
    (HS1 : ∀ (W : World) (u : Value), hp.IsInts W W.heap.size u (l0 ++ [x]) → Calls Try.prog 13 #[u] W fun e w' => (∃ u, e = .returned u ∧ hp.IsInts w' w'.heap.size u s1) ∧ Below W.heap.size W w')
    (HS2 : ∀ (W : World) (u : Value), hp.IsInts W W.heap.size u R → Calls Try.prog 13 #[u] W fun e w' => (∃ u, e = .returned u ∧ hp.IsInts w' w'.heap.size u s2) ∧ Below W.heap.size W w')
    (HM : ∀ (W : World) (u : Value), IsHeap W W.heap.size u l0 → Calls Try.prog 16 #[u] W fun e w' => e = .returned (.tuple #[.int .i64 z, .bool h]) ∧ Below W.heap.size W w')
    (HIt : ∀ (W : World) (u : Value), IsHeap W W.heap.size u tl → Calls Try.prog 12 #[u] W fun e w' => (∃ u, e = .returned u ∧ hp.IsInts w' w'.heap.size u tl) ∧ Below W.heap.size W w')
    (HP : ∀ (W : World) (u : Value), IsHeap W W.heap.size u l0 → Calls Try.prog 17 #[u] W fun e w' => (∃ q, e = .returned (.tuple #[.int .i64 z, rv q tl.length, .bool h]) ∧ IsHeap w' w'.heap.size (rv q tl.length) tl) ∧ Below W.heap.size W w') :
    Calls Try.prog 3 #[.slice a0 n c0, .slice a1 m c1, .int .i64 x] w fun e w' => e = .returned (.bool true) ∧ Below w.heap.size w w' := by
  have K := Below.refl w.heap.size w
  have H1 : ∀ W, Below w.heap.size w W → Calls Try.prog 8 #[.slice a0 n c0] W fun e w' => (∃ q, e = .returned (rv q l0.length) ∧ IsHeap w' w'.heap.size (rv q l0.length) l0) ∧ Below W.heap.size W w' := fun W hW => of_any (i0.on hW) (by have := hn.out; omega)
  have H2 : ∀ W, Below w.heap.size w W → Calls Try.prog 8 #[.slice a1 m c1] W fun e w' => (∃ q, e = .returned (rv q l1.length) ∧ IsHeap w' w'.heap.size (rv q l1.length) l1) ∧ Below W.heap.size W w' := fun W hW => of_any (i1.on hW) (by have := hm.out; omega)
  have H3 : ∀ (W : World) (u v : Value), IsHeap W W.heap.size u l0 → IsHeap W W.heap.size v l1 → Calls Try.prog 10 #[u, v] W fun e w' => (∃ q, e = .returned (rv q R.length) ∧ IsHeap w' w'.heap.size (rv q R.length) R) ∧ Below W.heap.size W w' := fun W u v hu hv => join_as hR.out (by have := hn.out; have := hm.out; omega) W u v hu hv
  have H4 : ∀ (W : World) (u : Value), IsHeap W W.heap.size u l0 → Calls Try.prog 9 #[u, .int .i64 x] W fun e w' => (∃ q, e = .returned (rv q XL.length) ∧ IsHeap w' w'.heap.size (rv q XL.length) XL) ∧ Below W.heap.size W w' := fun W u hu => by rw [← hXL.out]; exact push_any hu hx (by have := hn.out; omega)
  have HL0 : ∀ (W : World) (u : Value), IsHeap W W.heap.size u l0 → Calls Try.prog 15 #[u] W fun e w' => e = .returned (.int .i64 n) ∧ Below W.heap.size W w' := fun W u hu => by
    have := len_any u l0 W hu
    rwa [hn.out] at this
  have HL2 : ∀ (W : World) (u : Value), IsHeap W W.heap.size u R → Calls Try.prog 15 #[u] W fun e w' => e = .returned (.int .i64 ((n : Int) + (m : Int))) ∧ Below W.heap.size W w' := fun W u hu => by
    have := len_any u _ W hu
    rwa [← hR.out, List.length_append, hn.out, hm.out, Int.natCast_add] at this
  have HLt : tl.length = 0 → ∀ (W : World) (u : Value), IsHeap W W.heap.size u tl → Calls Try.prog 15 #[u] W fun e w' => e = .returned (.int .i64 0) ∧ Below W.heap.size W w' := fun h W u hu => by
    have := len_any u tl W hu
    rwa [h] at this
  have HC1 : ∀ W, Below w.heap.size w W → Calls Try.prog 14 #[.slice a0 n c0, .slice none 0 0] W fun e w' => (∃ v, e = .returned v ∧ w'.ownsRow W.heap.size 3 1 v n (l0.map (Value.int .i64))) ∧ Below W.heap.size W w' := fun W hW => by
    have := same.cat_own _ l0 _ [] W (i0.on hW) (hp.IsInts.nil _ _) (by have := hn.out; simp; omega)
    rwa [List.append_nil, hn.out] at this
  have HC2 : ∀ W, Below w.heap.size w W → Calls Try.prog 14 #[.slice a0 n c0, .slice a1 m c1] W fun e w' => (∃ v, e = .returned v ∧ hp.IsInts w' w'.heap.size v R) ∧ Below W.heap.size W w' := fun W hW => same.cat_eq hR.out (i0.on hW) (i1.on hW) (by have := hn.out; have := hm.out; omega)
  have hwx : ∀ y ∈ l0 ++ [x], (Lit.int .i64 y).wf = true := by
    intro y hy
    rcases List.mem_append.1 hy with hy | hy
    · exact i0.wf y hy
    · obtain rfl : y = x := by simpa using hy
      exact hx
  replace hwx := Lib.hid hwx
  replace hx := Lib.hid hx
  go_enter Try.func3, Try.ntmps3
  go_wp2_with (first
    | (go_at_call 7; with_reducible refine (paired_any _).mono ?_; rintro e wa ⟨rfl, hb⟩; replace K := st K hb; clear hb)
    | (go_at_call 8; with_reducible refine (H1 _ K).mono ?_; clear H1; rintro e wb ⟨⟨q1, rfl, hX⟩, hb⟩; have hA := hp.Blk.new wb [.pointer q1, .int .i64 l0.length] tyH; replace K := st (st K hb) ((Below.refl _ _).alloc (Nat.le_refl _) (.cells #[.pointer q1, .int .i64 l0.length] tyH)); replace hX := hX.on ((Below.refl _ _).alloc (Nat.le_refl _) (.cells #[.pointer q1, .int .i64 l0.length] tyH)); clear hb)
    | (go_at_call 9; with_reducible refine (H4 _ _ hX).mono ?_; clear H4; rintro e wc ⟨⟨q2, rfl, hY⟩, hb⟩; have hB := hp.Blk.new wc [.pointer q2, .int .i64 XL.length] tyH; replace K := st (st K hb) ((Below.refl _ _).alloc (Nat.le_refl _) (.cells #[.pointer q2, .int .i64 XL.length] tyH)); replace hY := hY.on ((Below.refl _ _).alloc (Nat.le_refl _) (.cells #[.pointer q2, .int .i64 XL.length] tyH)); replace hX := (hX.on hb).on ((Below.refl _ _).alloc (Nat.le_refl _) (.cells #[.pointer q2, .int .i64 XL.length] tyH)); replace hA := (hA.on hb).on ((Below.refl _ _).alloc (Nat.le_refl _) (.cells #[.pointer q2, .int .i64 XL.length] tyH)); clear hb))
  obtain ⟨WR, hWR⟩ : ∃ WR, wc.alloc (.cells #[.pointer q2, .int .i64 XL.length] tyH) = WR := ⟨_, rfl⟩
  rw [hWR] at hX hA hY hB K ⊢
  clear hWR
  apply rel.region_tail (C := fun w' => Below WR.heap.size WR w') (X := fun w w' => Below w.heap.size w w') 5 (by kernel_rfl) (by kernel_rfl) (by kernel_rfl) (by kernel_rfl) ((Below.refl _ _).drew)
  ((apply rel.walk_val; (focus (intro wq hq hf; (obtain ⟨d0, d1⟩ := ((hA).below hq (hA).lt).cells2); go_wp2; refine ⟨hq, Below.refl _ _, ?_, rfl⟩; (show rel.slot _ _ = _; simp only [rel.slot_lit, List.getD_cons_succ, List.getD_cons_zero]; (first | done | exact rfl)))); (simp only [rel.put_lit, List.set_cons_succ, List.set_cons_zero])))
  (apply rel.walk_val; (focus (intro wq hq hf; go_wp2; refine ⟨hq, Below.refl _ _, ?_, rfl⟩; (show rel.slot _ _ = _; simp only [rel.slot_lit, List.getD_cons_succ, List.getD_cons_zero]; (first | done | exact rfl)))); (simp only [rel.put_lit, List.set_cons_succ, List.set_cons_zero]))
  (apply rel.walk_rel (fun u w' => par.IsHeap w' w'.heap.size u (l1)) ⟨_, rfl⟩ (fun u w1 w2 h1 h2 => h2.on h1); (focus (intro wq hq hf; go_wp2_with (go_at_call 8; with_reducible refine (H2 _ (st K hq)).mono ?_; rintro e w'' ⟨⟨u, rfl, hu⟩, hb⟩); refine ⟨hq.trans (hb.mono hq.size), hb, ?_, rfl⟩; (show par.IsHeap _ _ (rel.slot _ _) _; simp only [rel.slot_lit, List.getD_cons_succ, List.getD_cons_zero]; exact hu))); (intro u wu _ hu; obtain ⟨p1, t_p1, rfl, -⟩ := hu; (simp only [rel.put_lit, List.set_cons_succ, List.set_cons_zero])))
  (apply rel.walk_rel (fun u w' => par.IsHeap w' w'.heap.size u (R)) ⟨_, rfl⟩ (fun u w1 w2 h1 h2 => h2.on h1); (focus (intro wq hq hf; go_wp2_with (go_at_call 10; with_reducible refine (H3 _ _ _ (hX.on hq) (hf.get 0 rfl rfl)).mono ?_; rintro e w'' ⟨⟨u, rfl, hu⟩, hb⟩); refine ⟨hq.trans (hb.mono hq.size), hb, ?_, rfl⟩; (show par.IsHeap _ _ (rel.slot _ _) _; simp only [rel.slot_lit, List.getD_cons_succ, List.getD_cons_zero]; exact hu))); (intro u wu _ hu; obtain ⟨p2, t_p2, rfl, -⟩ := hu; (simp only [rel.put_lit, List.set_cons_succ, List.set_cons_zero])))
  (apply rel.walk_rel (fun u w' => ∃ γ, u = .pointer (some ⟨γ, 0, none⟩) ∧ WR.heap.size ≤ γ ∧ hp.Blk w' γ tyH [.pointer none, .int .i64 0]) ⟨_, rfl⟩ (fun u w1 w2 h1 h2 => by obtain ⟨γ, he, hl, hk⟩ := h2; exact ⟨γ, he, hl, hk.on h1⟩); (focus (intro wq hq hf; go_wp2; refine ⟨hq.alloc hq.size _, (Below.refl _ _).alloc (Nat.le_refl _) _, ?_, rfl⟩; (show ∃ γ, rel.slot _ _ = _ ∧ _; simp only [rel.slot_lit, List.getD_cons_succ, List.getD_cons_zero]; exact ⟨_, rfl, hq.size, hp.Blk.new _ _ _⟩))); (intro u wu _ hu; obtain ⟨gz, rfl, -⟩ := hu; (simp only [rel.put_lit, List.set_cons_succ, List.set_cons_zero])))
  refine rel.walk_nil ?_
  intro w9 K9 hF
  have hZ0 : IsHeap w9 w9.heap.size (rv p2 R.length) R := hF _ (List.mem_cons_of_mem _ (List.mem_cons_self ..))
  have hC0 : ∃ γ, Value.pointer (some ⟨gz, 0, none⟩) = .pointer (some ⟨γ, 0, none⟩) ∧ WR.heap.size ≤ γ ∧ hp.Blk w9 γ tyH [.pointer none, .int .i64 0] := hF _ (List.mem_cons_self ..)
  clear hF H2 H3
  obtain ⟨γ, he, hγ, hC0⟩ := hC0
  obtain rfl : gz = γ := by simpa using he
  clear he
  obtain ⟨W2, hW2, hC, hZ, hKs, hKp, hsz, hot⟩ := par.stored (k := R.length) rfl hC0 (Nat.le_trans K.size hγ) (st K K9) hZ0
  have hX := ((hX.on K9).keep hKp).mono (Nat.le_of_eq hsz.symm)
  have hY := ((hY.on K9).keep hKp).mono (Nat.le_of_eq hsz.symm)
  have hA := hot _ _ _ (by have := hA.lt; omega) (hA.on K9)
  have hB := hot _ _ _ (by have := hB.lt; omega) (hB.on K9)
  obtain ⟨d0, d2⟩ := hC0.cells2
  have d1 := hC0.free 0
  have d3 := hC0.free 1
  have K := hKs
  obtain ⟨cA, eA⟩ := hA.cells2
  obtain ⟨cB, eB⟩ := hB.cells2
  obtain ⟨cC, eC⟩ := hC.cells2
  clear hsz hot hKp hC0 hZ0 K9 hγ hKs
  simp only [List.drop_succ_cons, List.drop_zero]
  rcases hc with ⟨rfl, rfl, rfl, ht0⟩ | ⟨hn0, rfl, hs0⟩
  · clear HIt
    replace HLt := HLt ht0
    clear ht0
    go_wp2_with (first
      | (go_at_call 12; (with_reducible refine (HI0 _ _ hX).mono ?_); clear HI0; rintro e v1 ⟨⟨u, rfl, hu⟩, hb⟩; (replace K := st K hb; (try replace hX := hX.on hb); (try replace hA := hA.on hb); (try replace hY := hY.on hb); (try replace hB := hB.on hb); (try replace hZ := hZ.on hb); (try replace hC := hC.on hb); (try replace hu := hu.on hb); (try replace hv := hv.on hb)); clear hb)
      | (go_at_call 13; (with_reducible refine (HS0 _ _ (i0.on K)).mono ?_); rintro e v2 ⟨⟨u', rfl, hv⟩, hb⟩; (replace K := st K hb; (try replace hX := hX.on hb); (try replace hA := hA.on hb); (try replace hY := hY.on hb); (try replace hB := hB.on hb); (try replace hZ := hZ.on hb); (try replace hC := hC.on hb); (try replace hu := hu.on hb)); clear hb; have hv2 := hv; obtain ⟨aw, cw, rfl, -⟩ := hv2)
      | (go_at_call 11; (with_reducible refine (same.ints_eq rfl hu hv).mono ?_); rintro e v3 ⟨rfl, hb⟩; clear hu hv; (replace K := st K hb; (try replace hX := hX.on hb); (try replace hA := hA.on hb); (try replace hY := hY.on hb); (try replace hB := hB.on hb); (try replace hZ := hZ.on hb); (try replace hC := hC.on hb); (try replace hu := hu.on hb); (try replace hv := hv.on hb)); clear hb; (try ((try clear cA eA); obtain ⟨cA, eA⟩ := (hA).cells2)); (try ((try clear cB eB); obtain ⟨cB, eB⟩ := (hB).cells2)); (try ((try clear cC eC); obtain ⟨cC, eC⟩ := (hC).cells2)))
      | (go_at_call 12; (with_reducible refine (HI1 _ _ hY).mono ?_); clear HI1 hY; rintro e v4 ⟨⟨u, rfl, hu⟩, hb⟩; (replace K := st K hb; (try replace hX := hX.on hb); (try replace hA := hA.on hb); (try replace hY := hY.on hb); (try replace hB := hB.on hb); (try replace hZ := hZ.on hb); (try replace hC := hC.on hb); (try replace hu := hu.on hb); (try replace hv := hv.on hb)); clear hb hB; clear cB eB)
      | (go_at_call 14; (with_reducible refine (HC1 _ K).mono ?_); clear HC1; rintro e v5 ⟨⟨u5, rfl, hr⟩, hbc⟩)
      | (at_builtin; refine hp.append_ints rfl _ _ 22 rfl v4.heap.size 3 Try.underlying22 same.infoInt _ 0 l0 rfl (hr.alloc _) _ [x] rfl (hp.IsInts.of_owns (hp.row_one _ x) rfl (by simpa using hx.out)) (by simp <;> omega) (by have := hbc.size; simp; omega) ?_; intro u6 v6 hr6 gr; have hb : Below v4.heap.size v4 v6 := (hbc.alloc hbc.size _).grown gr (by have := hbc.size; simp; omega) (fun k hk => (hr.lt k hk).1); have hq6 : v6.ownsRow v4.heap.size 3 1 u6 (0 + 1) ((l0 ++ [x]).map (Value.int .i64)) := (by simpa using hr6); have hv6 : hp.IsInts v6 v6.heap.size u6 (l0 ++ [x]) := hp.IsInts.of_owns hq6 (by rw [List.length_append, hn.out]; rfl) hwx.out; (replace K := st K hb; (try replace hX := hX.on hb); (try replace hA := hA.on hb); (try replace hY := hY.on hb); (try replace hB := hB.on hb); (try replace hZ := hZ.on hb); (try replace hC := hC.on hb); (try replace hu := hu.on hb); (try replace hv := hv.on hb)); clear hb hr6 gr hr hbc hq6)
      | (go_at_call 13; (with_reducible refine (HS1 _ _ hv6).mono ?_); clear HS1 hv6; rintro e v7 ⟨⟨u', rfl, hv⟩, hb⟩; (replace K := st K hb; (try replace hX := hX.on hb); (try replace hA := hA.on hb); (try replace hY := hY.on hb); (try replace hB := hB.on hb); (try replace hZ := hZ.on hb); (try replace hC := hC.on hb); (try replace hu := hu.on hb)); clear hb)
      | (go_at_call 12; (with_reducible refine (HI2 _ _ hZ).mono ?_); clear HI2; rintro e v8 ⟨⟨u, rfl, hu⟩, hb⟩; (replace K := st K hb; (try replace hX := hX.on hb); (try replace hA := hA.on hb); (try replace hY := hY.on hb); (try replace hB := hB.on hb); (try replace hZ := hZ.on hb); (try replace hC := hC.on hb); (try replace hu := hu.on hb); (try replace hv := hv.on hb)); clear hb)
      | (go_at_call 14; (with_reducible refine (HC2 _ K).mono ?_); clear HC2; rintro e v9 ⟨⟨u9, rfl, hv9⟩, hb⟩; (replace K := st K hb; (try replace hX := hX.on hb); (try replace hA := hA.on hb); (try replace hY := hY.on hb); (try replace hB := hB.on hb); (try replace hZ := hZ.on hb); (try replace hC := hC.on hb); (try replace hu := hu.on hb); (try replace hv := hv.on hb)); clear hb)
      | (go_at_call 13; (with_reducible refine (HS2 _ _ hv9).mono ?_); clear HS2 hv9; rintro e v10 ⟨⟨u', rfl, hv⟩, hb⟩; (replace K := st K hb; (try replace hX := hX.on hb); (try replace hA := hA.on hb); (try replace hY := hY.on hb); (try replace hB := hB.on hb); (try replace hZ := hZ.on hb); (try replace hC := hC.on hb); (try replace hu := hu.on hb)); clear hb)
      | (go_at_call 15; (with_reducible refine (HL0 _ _ hX).mono ?_); clear HL0; rintro e v11 ⟨rfl, hb⟩; (replace K := st K hb; (try replace hX := hX.on hb); (try replace hA := hA.on hb); (try replace hY := hY.on hb); (try replace hB := hB.on hb); (try replace hZ := hZ.on hb); (try replace hC := hC.on hb); (try replace hu := hu.on hb); (try replace hv := hv.on hb)); clear hb; ((try clear cA eA); obtain ⟨cA, eA⟩ := (hA).cells2); ((try clear cC eC); obtain ⟨cC, eC⟩ := (hC).cells2))
      | (go_at_call 15; (with_reducible refine (HL2 _ _ hZ).mono ?_); clear HL2 hZ cC eC; rintro e v12 ⟨rfl, hb⟩; (replace K := st K hb; (try replace hX := hX.on hb); (try replace hA := hA.on hb); (try replace hY := hY.on hb); (try replace hB := hB.on hb); (try replace hZ := hZ.on hb); (try replace hC := hC.on hb); (try replace hu := hu.on hb); (try replace hv := hv.on hb)); clear hb hC; ((try clear cA eA); obtain ⟨cA, eA⟩ := (hA).cells2))
      | (go_at_call 16; (with_reducible refine (HM _ _ hX).mono ?_); clear HM; rintro e v13 ⟨rfl, hb⟩; (replace K := st K hb; (try replace hX := hX.on hb); (try replace hA := hA.on hb); (try replace hY := hY.on hb); (try replace hB := hB.on hb); (try replace hZ := hZ.on hb); (try replace hC := hC.on hb); (try replace hu := hu.on hb); (try replace hv := hv.on hb)); clear hb; ((try clear cA eA); obtain ⟨cA, eA⟩ := (hA).cells2))
      | (go_at_call 17; (with_reducible refine (HP _ _ hX).mono ?_); clear HP hX cA eA; rintro e v14 ⟨⟨q9, rfl, hX⟩, hb⟩; have hA := hp.Blk.new v14 [.pointer q9, .int .i64 tl.length] tyH; replace K := st (st K hb) ((Below.refl _ _).alloc (Nat.le_refl _) (.cells #[.pointer q9, .int .i64 tl.length] tyH)); replace hX := hX.on ((Below.refl _ _).alloc (Nat.le_refl _) (.cells #[.pointer q9, .int .i64 tl.length] tyH)); clear hb; ((try clear cA eA); obtain ⟨cA, eA⟩ := (hA).cells2))
      | (go_at_call 15; (with_reducible refine (HLt _ _ hX).mono ?_); clear HLt hX cA eA hA; rintro e v15 ⟨rfl, hb⟩; replace K := st K hb; clear hb))
    go_ret
    exact ⟨rfl, K⟩
  · clear HLt
    have hsl : 0 < s0.length := by rw [hs0]; simp
    have hz0 : Hid (s0.getD 0 0 = z) := Lib.hid (by rw [hs0]; rfl)
    replace hs0 : Hid (s0.drop 1 = tl) := Lib.hid (by rw [hs0]; rfl)
    have hn1 : ¬ n = 0 := by omega
    go_wp2_with (first
      | (go_at_call 12; (with_reducible refine (HI0 _ _ hX).mono ?_); clear HI0; rintro e v1 ⟨⟨u, rfl, hu⟩, hb⟩; (replace K := st K hb; (try replace hX := hX.on hb); (try replace hA := hA.on hb); (try replace hY := hY.on hb); (try replace hB := hB.on hb); (try replace hZ := hZ.on hb); (try replace hC := hC.on hb); (try replace hu := hu.on hb); (try replace hv := hv.on hb)); clear hb)
      | (go_at_call 13; (with_reducible refine (HS0 _ _ (i0.on K)).mono ?_); rintro e v2 ⟨⟨u', rfl, hv⟩, hb⟩; (replace K := st K hb; (try replace hX := hX.on hb); (try replace hA := hA.on hb); (try replace hY := hY.on hb); (try replace hB := hB.on hb); (try replace hZ := hZ.on hb); (try replace hC := hC.on hb); (try replace hu := hu.on hb)); clear hb; have hv2 := hv; obtain ⟨aw, cw, rfl, -⟩ := hv2; obtain ⟨bs, os, rfl, hbs, hds⟩ := hv.at hsl; have cz := hds 0 hsl; rw [hz0.out, Nat.add_zero] at cz; have hsd := hv.from (i := 1) hsl; rw [hs0.out] at hsd; clear hds)
      | (go_at_call 11; (with_reducible refine (same.ints_eq rfl hu hv).mono ?_); rintro e v3 ⟨rfl, hb⟩; clear hu hv; (try clear hsd); (try clear cz); (replace K := st K hb; (try replace hX := hX.on hb); (try replace hA := hA.on hb); (try replace hY := hY.on hb); (try replace hB := hB.on hb); (try replace hZ := hZ.on hb); (try replace hC := hC.on hb); (try replace hu := hu.on hb); (try replace hv := hv.on hb)); clear hb; (try ((try clear cA eA); obtain ⟨cA, eA⟩ := (hA).cells2)); (try ((try clear cB eB); obtain ⟨cB, eB⟩ := (hB).cells2)); (try ((try clear cC eC); obtain ⟨cC, eC⟩ := (hC).cells2)))
      | (go_at_call 12; (with_reducible refine (HI1 _ _ hY).mono ?_); clear HI1 hY; rintro e v4 ⟨⟨u, rfl, hu⟩, hb⟩; (replace K := st K hb; (try replace hX := hX.on hb); (try replace hA := hA.on hb); (try replace hY := hY.on hb); (try replace hB := hB.on hb); (try replace hZ := hZ.on hb); (try replace hC := hC.on hb); (try replace hu := hu.on hb); (try replace hv := hv.on hb)); clear hb hB; clear cB eB)
      | (go_at_call 14; (with_reducible refine (HC1 _ K).mono ?_); clear HC1; rintro e v5 ⟨⟨u5, rfl, hr⟩, hbc⟩)
      | (at_builtin; refine hp.append_ints rfl _ _ 22 rfl v4.heap.size 3 Try.underlying22 same.infoInt _ n l0 rfl (hr.alloc _) _ [x] rfl (hp.IsInts.of_owns (hp.row_one _ x) rfl (by simpa using hx.out)) (by simp <;> omega) (by have := hbc.size; simp; omega) ?_; intro u6 v6 hr6 gr; have hb : Below v4.heap.size v4 v6 := (hbc.alloc hbc.size _).grown gr (by have := hbc.size; simp; omega) (fun k hk => (hr.lt k hk).1); have hq6 : v6.ownsRow v4.heap.size 3 1 u6 (n + 1) ((l0 ++ [x]).map (Value.int .i64)) := (by simpa using hr6); have hv6 : hp.IsInts v6 v6.heap.size u6 (l0 ++ [x]) := hp.IsInts.of_owns hq6 (by rw [List.length_append, hn.out]; rfl) hwx.out; (replace K := st K hb; (try replace hX := hX.on hb); (try replace hA := hA.on hb); (try replace hY := hY.on hb); (try replace hB := hB.on hb); (try replace hZ := hZ.on hb); (try replace hC := hC.on hb); (try replace hu := hu.on hb); (try replace hv := hv.on hb)); clear hb hr6 gr hr hbc hq6)
      | (go_at_call 13; (with_reducible refine (HS1 _ _ hv6).mono ?_); clear HS1 hv6; rintro e v7 ⟨⟨u', rfl, hv⟩, hb⟩; (replace K := st K hb; (try replace hX := hX.on hb); (try replace hA := hA.on hb); (try replace hY := hY.on hb); (try replace hB := hB.on hb); (try replace hZ := hZ.on hb); (try replace hC := hC.on hb); (try replace hu := hu.on hb)); clear hb)
      | (go_at_call 12; (with_reducible refine (HI2 _ _ hZ).mono ?_); clear HI2; rintro e v8 ⟨⟨u, rfl, hu⟩, hb⟩; (replace K := st K hb; (try replace hX := hX.on hb); (try replace hA := hA.on hb); (try replace hY := hY.on hb); (try replace hB := hB.on hb); (try replace hZ := hZ.on hb); (try replace hC := hC.on hb); (try replace hu := hu.on hb); (try replace hv := hv.on hb)); clear hb)
      | (go_at_call 14; (with_reducible refine (HC2 _ K).mono ?_); clear HC2; rintro e v9 ⟨⟨u9, rfl, hv9⟩, hb⟩; (replace K := st K hb; (try replace hX := hX.on hb); (try replace hA := hA.on hb); (try replace hY := hY.on hb); (try replace hB := hB.on hb); (try replace hZ := hZ.on hb); (try replace hC := hC.on hb); (try replace hu := hu.on hb); (try replace hv := hv.on hb)); clear hb)
      | (go_at_call 13; (with_reducible refine (HS2 _ _ hv9).mono ?_); clear HS2 hv9; rintro e v10 ⟨⟨u', rfl, hv⟩, hb⟩; (replace K := st K hb; (try replace hX := hX.on hb); (try replace hA := hA.on hb); (try replace hY := hY.on hb); (try replace hB := hB.on hb); (try replace hZ := hZ.on hb); (try replace hC := hC.on hb); (try replace hu := hu.on hb)); clear hb)
      | (go_at_call 15; (with_reducible refine (HL0 _ _ hX).mono ?_); clear HL0; rintro e v11 ⟨rfl, hb⟩; (replace K := st K hb; (try replace hX := hX.on hb); (try replace hA := hA.on hb); (try replace hY := hY.on hb); (try replace hB := hB.on hb); (try replace hZ := hZ.on hb); (try replace hC := hC.on hb); (try replace hu := hu.on hb); (try replace hv := hv.on hb)); clear hb; ((try clear cA eA); obtain ⟨cA, eA⟩ := (hA).cells2); ((try clear cC eC); obtain ⟨cC, eC⟩ := (hC).cells2))
      | (go_at_call 15; (with_reducible refine (HL2 _ _ hZ).mono ?_); clear HL2 hZ cC eC; rintro e v12 ⟨rfl, hb⟩; (replace K := st K hb; (try replace hX := hX.on hb); (try replace hA := hA.on hb); (try replace hY := hY.on hb); (try replace hB := hB.on hb); (try replace hZ := hZ.on hb); (try replace hC := hC.on hb); (try replace hu := hu.on hb); (try replace hv := hv.on hb)); clear hb hC; ((try clear cA eA); obtain ⟨cA, eA⟩ := (hA).cells2))
      | (go_at_call 16; (with_reducible refine (HM _ _ hX).mono ?_); clear HM; rintro e v13 ⟨rfl, hb⟩; (replace K := st K hb; (try replace hX := hX.on hb); (try replace hA := hA.on hb); (try replace hY := hY.on hb); (try replace hB := hB.on hb); (try replace hZ := hZ.on hb); (try replace hC := hC.on hb); (try replace hu := hu.on hb); (try replace hv := hv.on hb)); clear hb; ((try clear cA eA); obtain ⟨cA, eA⟩ := (hA).cells2))
      | (go_at_call 17; (with_reducible refine (HP _ _ hX).mono ?_); clear HP hX cA eA; rintro e v14 ⟨⟨q9, rfl, hX⟩, hb⟩; have hA := hp.Blk.new v14 [.pointer q9, .int .i64 tl.length] tyH; replace K := st (st K hb) ((Below.refl _ _).alloc (Nat.le_refl _) (.cells #[.pointer q9, .int .i64 tl.length] tyH)); replace hX := hX.on ((Below.refl _ _).alloc (Nat.le_refl _) (.cells #[.pointer q9, .int .i64 tl.length] tyH)); clear hb; ((try clear cA eA); obtain ⟨cA, eA⟩ := (hA).cells2))
      | (go_at_call 12; (with_reducible refine (HIt _ _ hX).mono ?_); clear HIt hX cA eA hA; rintro e v15 ⟨⟨u, rfl, hu⟩, hb⟩; replace K := st K hb; clear hb)
      | (go_at_call 11; (with_reducible refine (same.ints_eq rfl hu hsd).mono ?_); rintro e v16 ⟨rfl, hb⟩; clear hu hv hsd cz; replace K := st K hb; clear hb))
    go_ret
    exact ⟨rfl, K⟩

theorem walk (v0 : Value) (l0 : List Int) (v1 : Value) (l1 : List Int) (a2 : Int) (w : World) (i0 : hp.IsInts w w.heap.size v0 l0) (i1 : hp.IsInts w w.heap.size v1 l1) (w2 : (Lit.int .i64 a2).wf = true) (hbd : l0.length + l1.length ≤ 1048576) :
    Calls Try.prog 3 #[v0, v1, .int .i64 a2] w fun e w' => e = .returned (.bool true) ∧ Below w.heap.size w w' := by
  have i0' := i0
  obtain ⟨a0, c0, rfl, -⟩ := i0'
  have i1' := i1
  obtain ⟨a1, c1, rfl, -⟩ := i1'
  have hl := srt_len l0
  have he : srt (a2 :: l0) = srt (l0 ++ [a2]) := srt_eq (List.perm_append_comm (l₁ := [a2]) (l₂ := l0))
  have HI0 := fun (W : World) (u : Value) (hu : IsHeap W W.heap.size u l0) => ints_any hu (by omega)
  have HI1 := fun (W : World) (u : Value) (hu : IsHeap W W.heap.size u (a2 :: l0)) => ints_any hu (by simp; omega)
  have HI2 := fun (W : World) (u : Value) (hu : IsHeap W W.heap.size u (l0 ++ l1)) => ints_any hu (by simp; omega)
  have HS0 := fun (W : World) (u : Value) (hu : hp.IsInts W W.heap.size u l0) => same.sorted_any hu (by omega)
  have HS1 := fun (W : World) (u : Value) (hu : hp.IsInts W W.heap.size u (l0 ++ [a2])) => same.sorted_any hu (by simp; omega)
  have HS2 := fun (W : World) (u : Value) (hu : hp.IsInts W W.heap.size u (l0 ++ l1)) => same.sorted_any hu (by simp; omega)
  rw [← he] at HS1
  rcases hs : srt l0 with _ | ⟨z, tl⟩
  · rw [hs] at hl
    have h0 : l0 = [] := List.eq_nil_of_length_eq_zero (by simpa using hl.symm)
    have hn : srt ([] : List Int) = [] := by simp [srt]
    refine walk_of a0 _ c0 l0 a1 _ c1 l1 a2 w i0 i1 (Lib.hid rfl) (Lib.hid rfl) w2 hbd _ _ _ _ _ [] (Lib.hid rfl) (Lib.hid rfl) 0 false (.inl ⟨by rw [h0]; rfl, rfl, rfl, rfl⟩) HI0 HI1 HI2 HS0 HS1 HS2 ?_ ?_ ?_
    · intro W u hu
      subst h0
      exact min_nil hu
    · intro W u hu
      have := ints_any hu (by simp)
      rwa [hn] at this
    · intro W u hu
      subst h0
      exact (pop_nil hu).mono fun _ _ ⟨he, hb⟩ => ⟨⟨none, he, IsHeap.nil _ _⟩, hb⟩
  · rw [hs] at hl
    have hl1 : tl.length + 1 = l0.length := by simpa using hl
    have htl : srt tl = tl := by
      have := srt_rises l0
      rw [hs] at this
      exact srt_of (List.pairwise_cons.1 this).2 (List.Perm.refl _)
    refine walk_of a0 _ c0 l0 a1 _ c1 l1 a2 w i0 i1 (Lib.hid rfl) (Lib.hid rfl) w2 hbd _ _ _ _ _ tl (Lib.hid rfl) (Lib.hid rfl) z true (.inr ⟨by omega, rfl, hs⟩) HI0 HI1 HI2 HS0 HS1 HS2 ?_ ?_ ?_
    · intro W u hu
      exact min_cons hu hs
    · intro W u hu
      have := ints_any hu (by omega)
      rwa [htl] at this
    · intro W u hu
      exact pop_cons hu hs (by omega)
end Go.Proofs.Ytnfoadhhgonfkaa.pairTells
