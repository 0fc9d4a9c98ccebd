/- The walk of WbtSplits. -/
import Derived.Test.YtbdmccokdbfkpaaWbtWalks
import Derived.Test.YtbdmccokdbfkpaaWbtJoin
namespace Go.Proofs.Ytbdmccokdbfkpaa.wbtSplits
open Go Go.RowKit Go.Proofs.Ytbdmccokdbfkpaa.wbt Go.Proofs.Ytbdmccokdbfkpaa.sch
set_option linter.unusedVariables false

/-- what is split is joined again -/
theorem joined_not {x : Int} {K : List Int} (aK : Asc K) (h : x ∉ K) : uni (lo x K) (hi x K) = K := by
  refine (uni_of aK fun z => ?_).symm
  rw [mem_lo, mem_hi]
  constructor
  · intro hz
    rcases Int.lt_trichotomy z x with e | e | e
    · exact .inl ⟨hz, e⟩
    · exact absurd (e ▸ hz) h
    · exact .inr ⟨hz, e⟩
  · rintro (h | h) <;> exact h.1
theorem joined_put {x : Int} {K : List Int} (aK : Asc K) (h : x ∈ K) : ins x (uni (lo x K) (hi x K)) = K := by
  refine (ins_of (uni_asc _ _) aK fun z => ?_).symm
  rw [mem_uni, mem_lo, mem_hi]
  constructor
  · intro hz
    rcases Int.lt_trichotomy z x with e | e | e
    · exact .inr (.inl ⟨hz, e⟩)
    · exact .inl e
    · exact .inr (.inr ⟨hz, e⟩)
  · rintro (rfl | h | h)
    · exact h
    · exact h.1
    · exact h.1

set_option maxRecDepth 100000 in
set_option maxHeartbeats 16000000 in
theorem core_no (v0 : Value) (l0 : List Int) (x y z : Int) (low high : Bool) (K A B : List Int) (N : Nat) (w : World) (i0 : hp.IsInts w w.heap.size v0 l0) (bd : l0.length ≤ 17592186043904) (hK : uniq l0 = K)
    (hA : lo x K = A) (hB : hi x K = B) (hJ : uni A B = K) (hN : A.length = N) (hx : (Lit.int .i64 x).wf = true) (hm : x ∉ K) (h2 : at_ A ((N : Int) - 1) = (y, low)) (h3 : at_ B 0 = (z, high))
    (hy : (low = true ∧ y < x) ∨ low = false) (hz : (high = true ∧ x < z) ∨ high = false) :
    Calls Try.prog 9 #[v0, .int .i64 x] w fun e w' => e = .returned (.bool true) ∧ Below w.heap.size w w' := by
  have hul := uniq_le l0
  have H1 := fun W (hW : Below w.heap.size w W) => of_as hK (i0.on hW) (by omega)
  rw [hK] at hul
  have hlK := Lib.hid (show K.length ≤ 17592186044416 by omega)
  have hle := lo_hi_le x K
  have hlj := uni_le A B
  rw [hA, hB] at hle
  rw [hJ] at hlj
  have SP : ∀ W v (hS : IsSet W W.heap.size v K), Calls Try.prog 25 #[v, .int .i64 x] W fun e w' => (∃ q r, e = .returned (.tuple #[rv q, .bool false, rv r]) ∧ IsSet w' w'.heap.size (rv q) A ∧ IsSet w' w'.heap.size (rv r) B) ∧ Below W.heap.size W w' := fun W v hS => by
    have := set_split (x := x) hS (by omega)
    rw [hA, hB, show decide (x ∈ K) = false by simpa using hm] at this
    exact this
  have JN : ∀ W v u (hA : IsSet W W.heap.size v A) (hB : IsSet W W.heap.size u B), Calls Try.prog 29 #[v, u] W fun e w' => (∃ q, e = .returned (rv q) ∧ IsSet w' w'.heap.size (rv q) K) ∧ Below W.heap.size W w' := fun W v u hA hB => by
    have := set_join hA hB (by omega)
    rw [hJ] at this
    exact this
  have HS := fun W v (hS : IsSet W W.heap.size v K) => set_has (x := x) (b := false) hS (by simpa using hm)
  have LA : ∀ W v (hA : IsSet W W.heap.size v A), Calls Try.prog 19 #[v] W fun e w' => e = .returned (.int .i64 (N : Int)) ∧ Below W.heap.size W w' := fun W v h => by
    have := len_any v A W h
    rw [hN] at this
    exact this
  have A2 := fun W v (h : IsSet W W.heap.size v A) => at_any h (by omega) (by omega) h2
  have A3 := fun W v (h : IsSet W W.heap.size v B) => at_any h (by omega) (by omega) h3
  have hNb : N ≤ 17592186043904 := by omega
  obtain ⟨a0, c0, rfl, -⟩ := i0
  have KK := Below.refl w.heap.size w
  replace hJ := Lib.hid hJ
  clear bd hK hul h2 h3 hN hle hlj hA hB hm hx
  go_enter Try.func9, Try.ntmps9
  go_wp2_with (first
    | (go_at_call 11; (with_reducible refine (wbted_any _).mono ?_); rintro e wa ⟨rfl, hb⟩; replace KK := st KK hb; clear hb)
    | (go_at_call 24; (with_reducible refine (H1 _ KK).mono ?_); clear H1; rintro e wb ⟨⟨q1, rfl, hS⟩, hb⟩; have kS := hp.Blk.new wb [.pointer q1] tyH; replace KK := st (st KK hb) ((Below.refl _ _).alloc (Nat.le_refl _) (.cells #[.pointer q1] tyH)); replace hS := hS.on ((Below.refl _ _).alloc (Nat.le_refl _) (.cells #[.pointer q1] tyH)); clear hb; ((try clear cS); have cS := (kS).cell 0; simp only [List.getElem?_cons_zero] at cS); have lS := kS.lt)
    | (go_at_call 25; (with_reducible refine (SP _ _ hS).mono ?_); clear SP; rintro e wd ⟨⟨q3, q4, rfl, hA, hB⟩, hb⟩; have kA := (hp.Blk.new wd [.pointer q3] tyH).on ((Below.refl _ _).alloc (Nat.le_refl _) (.cells #[.pointer q4] tyH)); have kB := hp.Blk.newAt (w := wd.alloc (.cells #[.pointer q3] tyH)) (cs := [.pointer q4]) (t := tyH) (g := wd.heap.size + 1) (by simp); replace KK := st (st (st KK hb) ((Below.refl _ _).alloc (Nat.le_refl _) (.cells #[.pointer q3] tyH))) ((Below.refl _ _).alloc (Nat.le_refl _) (.cells #[.pointer q4] tyH)); replace hS := ((hS.on hb).on ((Below.refl _ _).alloc (Nat.le_refl _) (.cells #[.pointer q3] tyH))).on ((Below.refl _ _).alloc (Nat.le_refl _) (.cells #[.pointer q4] tyH)); replace kS := ((kS.on hb).on ((Below.refl _ _).alloc (Nat.le_refl _) (.cells #[.pointer q3] tyH))).on ((Below.refl _ _).alloc (Nat.le_refl _) (.cells #[.pointer q4] tyH)); replace hA := (hA.on ((Below.refl _ _).alloc (Nat.le_refl _) (.cells #[.pointer q3] tyH))).on ((Below.refl _ _).alloc (Nat.le_refl _) (.cells #[.pointer q4] tyH)); replace hB := (hB.on ((Below.refl _ _).alloc (Nat.le_refl _) (.cells #[.pointer q3] tyH))).on ((Below.refl _ _).alloc (Nat.le_refl _) (.cells #[.pointer q4] tyH)); clear hb cS lS; ((try clear cS); have cS := (kS).cell 0; simp only [List.getElem?_cons_zero] at cS); have lS := kS.lt; ((try clear cA); have cA := (kA).cell 0; simp only [List.getElem?_cons_zero] at cA); have lA := kA.lt; ((try clear cB); have cB := (kB).cell 0; simp only [List.getElem?_cons_zero] at cB); have lB := kB.lt)
    | (go_at_call 29; (with_reducible refine (JN _ _ _ hA hB).mono ?_); clear JN; rintro e we ⟨⟨q5, rfl, hJ⟩, hb⟩; have kJ := hp.Blk.new we [.pointer q5] tyH; have hgb := (st KK hb).size; replace KK := st (st KK hb) ((Below.refl _ _).alloc (Nat.le_refl _) (.cells #[.pointer q5] tyH)); replace hJ := hJ.on ((Below.refl _ _).alloc (Nat.le_refl _) (.cells #[.pointer q5] tyH)); replace hS := hS.on hb; replace hA := hA.on hb; replace hB := hB.on hb; replace kS := kS.on hb; replace kA := kA.on hb; replace kB := kB.on hb; have neS := Nat.ne_of_lt kS.lt; have neA := Nat.ne_of_lt kA.lt; have neB := Nat.ne_of_lt kB.lt; replace hS := hS.on ((Below.refl _ _).alloc (Nat.le_refl _) (.cells #[.pointer q5] tyH)); replace hA := hA.on ((Below.refl _ _).alloc (Nat.le_refl _) (.cells #[.pointer q5] tyH)); replace hB := hB.on ((Below.refl _ _).alloc (Nat.le_refl _) (.cells #[.pointer q5] tyH)); replace kS := kS.on ((Below.refl _ _).alloc (Nat.le_refl _) (.cells #[.pointer q5] tyH)); replace kA := kA.on ((Below.refl _ _).alloc (Nat.le_refl _) (.cells #[.pointer q5] tyH)); replace kB := kB.on ((Below.refl _ _).alloc (Nat.le_refl _) (.cells #[.pointer q5] tyH)); clear hb cS lS cA lA cB lB; ((try clear cS); have cS := (kS).cell 0; simp only [List.getElem?_cons_zero] at cS); have lS := kS.lt; ((try clear cA); have cA := (kA).cell 0; simp only [List.getElem?_cons_zero] at cA); have lA := kA.lt; ((try clear cB); have cB := (kB).cell 0; simp only [List.getElem?_cons_zero] at cB); have lB := kB.lt; ((try clear cJ); have cJ := (kJ).cell 0; simp only [List.getElem?_cons_zero] at cJ); have lJ := kJ.lt))
  obtain ⟨W9, hW9⟩ : ∃ W9, we.alloc (.cells #[.pointer q5] tyH) = W9 := ⟨_, rfl⟩
  rw [hW9] at hS hA hB hJ kS kA kB kJ KK ⊢
  clear hW9 cS cA cB cJ lS lA lB lJ hgb
  clear neS neA neB
  apply rel.region (C := fun w' => Below W9.heap.size W9 w') (X := fun w w' => Below w.heap.size w w') (by kernel_rfl) (by kernel_rfl) (by kernel_rfl) ((Below.refl _ _).drew)
  ((apply rel.walk_val; (focus (intro wq hq hf; (have d0 := (((kJ).below hq (kJ).lt)).cell 0; simp only [List.getElem?_cons_zero] at d0); go_wp2; refine ⟨hq, Below.refl _ _, ?_, rfl⟩; (show rel.slot _ _ = _; simp only [rel.slot_lit, List.getD_cons_succ, List.getD_cons_zero]; (first | done | exact rfl)))); (simp only [rel.put_lit, List.set_cons_succ, List.set_cons_zero])))
  (apply rel.walk_rel (fun u w' => hp.IsInts w' w'.heap.size u (K)) ⟨_, rfl⟩ (fun u w1 w2 h1 h2 => h2.on h1); (focus (intro wq hq hf; go_wp2_with (go_at_call 18; refine (ints_any (hJ.on hq) hlK.out).mono ?_; rintro e w'' ⟨⟨u, rfl, hu⟩, hb⟩); refine ⟨hq.trans (hb.mono hq.size), hb, ?_, rfl⟩; (show hp.IsInts _ _ (rel.slot _ _) _; simp only [rel.slot_lit, List.getD_cons_succ, List.getD_cons_zero]; exact hu))); (intro u wu _ hu; obtain ⟨pu, cu, rfl, -⟩ := hu; (simp only [rel.put_lit, List.set_cons_succ, List.set_cons_zero])))
  ((apply rel.walk_val; (focus (intro wq hq hf; (have d0 := (((kS).below hq (kS).lt)).cell 0; simp only [List.getElem?_cons_zero] at d0); go_wp2; refine ⟨hq, Below.refl _ _, ?_, rfl⟩; (show rel.slot _ _ = _; simp only [rel.slot_lit, List.getD_cons_succ, List.getD_cons_zero]; (first | done | exact rfl)))); (simp only [rel.put_lit, List.set_cons_succ, List.set_cons_zero])))
  (apply rel.walk_rel (fun u w' => hp.IsInts w' w'.heap.size u (K)) ⟨_, rfl⟩ (fun u w1 w2 h1 h2 => h2.on h1); (focus (intro wq hq hf; go_wp2_with (go_at_call 18; refine (ints_any (hS.on hq) hlK.out).mono ?_; rintro e w'' ⟨⟨u, rfl, hu⟩, hb⟩); refine ⟨hq.trans (hb.mono hq.size), hb, ?_, rfl⟩; (show hp.IsInts _ _ (rel.slot _ _) _; simp only [rel.slot_lit, List.getD_cons_succ, List.getD_cons_zero]; exact hu))); (intro u wu _ hu; obtain ⟨pu_1, cu_1, rfl, -⟩ := hu; (simp only [rel.put_lit, List.set_cons_succ, List.set_cons_zero])))
  (apply rel.walk_val; (focus (intro wq hq hf; go_wp2_with (go_at_call 17; refine (same.ints_eq rfl (hf.get 1 rfl rfl) (hf.get 0 rfl rfl)).mono ?_; rintro e w'' ⟨rfl, hb⟩); refine ⟨hq.trans (hb.mono hq.size), hb, ?_, rfl⟩; (show rel.slot _ _ = _; simp only [rel.slot_lit, List.getD_cons_succ, List.getD_cons_zero]; (first | done | exact rfl)))); (simp only [rel.put_lit, List.set_cons_succ, List.set_cons_zero]))
  (apply rel.walk_val; (focus (intro wq hq hf; go_wp2; refine ⟨hq, Below.refl _ _, ?_, rfl⟩; (show rel.slot _ _ = _; simp only [rel.slot_lit, List.getD_cons_succ, List.getD_cons_zero]; (first | done | exact rfl)))); (simp only [rel.put_lit, List.set_cons_succ, List.set_cons_zero]))
  refine rel.walk_nil ?_
  intro w1 K1 hF
  clear hF kJ hJ
  replace KK := KK.trans (K1.mono KK.size)
  replace hS := hS.on K1
  replace hA := hA.on K1
  replace hB := hB.on K1
  replace kS := kS.on K1
  replace kA := kA.on K1
  replace kB := kB.on K1
  clear K1
  go_wp2_with fail
  apply rel.region (C := fun w' => Below w1.heap.size w1 w') (X := fun w w' => Below w.heap.size w w') (by kernel_rfl) (by kernel_rfl) (by kernel_rfl) ((Below.refl _ _).drew)
  ((apply rel.walk_val; (focus (intro wq hq hf; (have d0 := (((kA).below hq (kA).lt)).cell 0; simp only [List.getElem?_cons_zero] at d0); go_wp2; refine ⟨hq, Below.refl _ _, ?_, rfl⟩; (show rel.slot _ _ = _; simp only [rel.slot_lit, List.getD_cons_succ, List.getD_cons_zero]; (first | done | exact rfl)))); (simp only [rel.put_lit, List.set_cons_succ, List.set_cons_zero])))
  ((apply rel.walk_val; (focus (intro wq hq hf; (have d0 := (((kA).below hq (kA).lt)).cell 0; simp only [List.getElem?_cons_zero] at d0); go_wp2; refine ⟨hq, Below.refl _ _, ?_, rfl⟩; (show rel.slot _ _ = _; simp only [rel.slot_lit, List.getD_cons_succ, List.getD_cons_zero]; (first | done | exact rfl)))); (simp only [rel.put_lit, List.set_cons_succ, List.set_cons_zero])))
  (apply rel.walk_val; (focus (intro wq hq hf; go_wp2_with (go_at_call 19; refine (LA _ _ (hA.on hq)).mono ?_; rintro e w'' ⟨rfl, hb⟩); refine ⟨hq.trans (hb.mono hq.size), hb, ?_, rfl⟩; (show rel.slot _ _ = _; simp only [rel.slot_lit, List.getD_cons_succ, List.getD_cons_zero]; (first | done | exact rfl)))); (simp only [rel.put_lit, List.set_cons_succ, List.set_cons_zero]))
  (apply rel.walk_val; (focus (intro wq hq hf; go_wp2; refine ⟨hq, Below.refl _ _, ?_, rfl⟩; (show rel.slot _ _ = _; simp only [rel.slot_lit, List.getD_cons_succ, List.getD_cons_zero]; (first | done | exact rfl)))); (simp only [rel.put_lit, List.set_cons_succ, List.set_cons_zero]))
  (apply rel.walk_val; (focus (intro wq hq hf; go_wp2_with (go_at_call 33; refine (A2 _ _ (hA.on hq)).mono ?_; rintro e w'' ⟨rfl, hb⟩); refine ⟨hq.trans (hb.mono hq.size), hb, ?_, rfl⟩; (show rel.slot _ _ = _; simp only [rel.slot_lit, List.getD_cons_succ, List.getD_cons_zero]; (first | done | exact rfl)))); (simp only [rel.put_lit, List.set_cons_succ, List.set_cons_zero]))
  (apply rel.walk_val; (focus (intro wq hq hf; go_wp2; refine ⟨hq, Below.refl _ _, ?_, rfl⟩; (show rel.slot _ _ = _; simp only [rel.slot_lit, List.getD_cons_succ, List.getD_cons_zero]; (first | done | exact rfl)))); (simp only [rel.put_lit, List.set_cons_succ, List.set_cons_zero]))
  (apply rel.walk_val; (focus (intro wq hq hf; go_wp2; refine ⟨hq, Below.refl _ _, ?_, rfl⟩; (show rel.slot _ _ = _; simp only [rel.slot_lit, List.getD_cons_succ, List.getD_cons_zero]; (first | done | exact rfl)))); (simp only [rel.put_lit, List.set_cons_succ, List.set_cons_zero]))
  (apply rel.walk_val; (focus (intro wq hq hf; go_wp2; refine ⟨hq, Below.refl _ _, ?_, rfl⟩; (show rel.slot _ _ = _; simp only [rel.slot_lit, List.getD_cons_succ, List.getD_cons_zero]; (first | done | exact rfl)))); (simp only [rel.put_lit, List.set_cons_succ, List.set_cons_zero]))
  (apply rel.walk_val; (focus (intro wq hq hf; go_wp2; refine ⟨hq, Below.refl _ _, ?_, rfl⟩; (show rel.slot _ _ = _; simp only [rel.slot_lit, List.getD_cons_succ, List.getD_cons_zero]; (first | done | exact rfl)))); (simp only [rel.put_lit, List.set_cons_succ, List.set_cons_zero]))
  (apply rel.walk_val; (focus (intro wq hq hf; go_wp2; refine ⟨hq, Below.refl _ _, ?_, rfl⟩; (show rel.slot _ _ = _; simp only [rel.slot_lit, List.getD_cons_succ, List.getD_cons_zero]; (first | done | exact rfl)))); (simp only [rel.put_lit, List.set_cons_succ, List.set_cons_zero]))
  refine rel.walk_nil ?_
  intro w2 K2 hF
  clear hF LA A2 kA hA
  replace KK := KK.trans (K2.mono KK.size)
  replace hS := hS.on K2
  replace hB := hB.on K2
  replace kS := kS.on K2
  replace kB := kB.on K2
  clear K2
  ((try clear cS); have cS := (kS).cell 0; simp only [List.getElem?_cons_zero] at cS); ((try clear cB); have cB := (kB).cell 0; simp only [List.getElem?_cons_zero] at cB); have lS := kS.lt; have lB := kB.lt
  rcases hy with ⟨rfl, hy⟩ | rfl <;> rcases hz with ⟨rfl, hz⟩ | rfl <;> (
    go_wp2_with (first
      | (go_at_call 33; (with_reducible refine (A3 _ _ hB).mono ?_); rintro e wc ⟨rfl, hb⟩; replace KK := KK.trans (hb.mono KK.size); replace hS := hS.on hb; replace kS := kS.on hb; clear hb cB lB cS lS hB kB; ((try clear cS); have cS := (kS).cell 0; simp only [List.getElem?_cons_zero] at cS); have lS := kS.lt)
      | (go_at_call 20; (with_reducible refine (HS _ _ hS).mono ?_); rintro e wd ⟨rfl, hb⟩; replace KK := KK.trans (hb.mono KK.size); clear hb cS lS hS kS))
    go_ret
    exact ⟨rfl, KK⟩)

set_option maxRecDepth 100000 in
set_option maxHeartbeats 16000000 in
theorem core_yes (v0 : Value) (l0 : List Int) (x y z : Int) (low high : Bool) (K A B J : List Int) (N : Nat) (w : World) (i0 : hp.IsInts w w.heap.size v0 l0) (bd : l0.length ≤ 17592186043904) (hK : uniq l0 = K)
    (hA : lo x K = A) (hB : hi x K = B) (hJ : uni A B = J) (hN : A.length = N) (hx : (Lit.int .i64 x).wf = true) (hm : x ∈ K) (hT : ins x J = K) (h2 : at_ A ((N : Int) - 1) = (y, low)) (h3 : at_ B 0 = (z, high))
    (hy : (low = true ∧ y < x) ∨ low = false) (hz : (high = true ∧ x < z) ∨ high = false) :
    Calls Try.prog 9 #[v0, .int .i64 x] w fun e w' => e = .returned (.bool true) ∧ Below w.heap.size w w' := by
  have hul := uniq_le l0
  have H1 := fun W (hW : Below w.heap.size w W) => of_as hK (i0.on hW) (by omega)
  rw [hK] at hul
  have hlK := Lib.hid (show K.length ≤ 17592186044416 by omega)
  have hle := lo_hi_le x K
  have hlj := uni_le A B
  rw [hA, hB] at hle
  rw [hJ] at hlj
  have SP : ∀ W v (hS : IsSet W W.heap.size v K), Calls Try.prog 25 #[v, .int .i64 x] W fun e w' => (∃ q r, e = .returned (.tuple #[rv q, .bool true, rv r]) ∧ IsSet w' w'.heap.size (rv q) A ∧ IsSet w' w'.heap.size (rv r) B) ∧ Below W.heap.size W w' := fun W v hS => by
    have := set_split (x := x) hS (by omega)
    rw [hA, hB, show decide (x ∈ K) = true by simpa using hm] at this
    exact this
  have JN : ∀ W v u (hA : IsSet W W.heap.size v A) (hB : IsSet W W.heap.size u B), Calls Try.prog 29 #[v, u] W fun e w' => (∃ q, e = .returned (rv q) ∧ IsSet w' w'.heap.size (rv q) J) ∧ Below W.heap.size W w' := fun W v u hA hB => by
    have := set_join hA hB (by omega)
    rw [hJ] at this
    exact this
  have PT : ∀ W v (hJ : IsSet W W.heap.size v J), Calls Try.prog 14 #[v, .int .i64 x] W fun e w' => (∃ q, e = .returned (rv q) ∧ IsSet w' w'.heap.size (rv q) K) ∧ Below W.heap.size W w' := fun W v hJ => by
    have := set_put (x := x) hJ hx (by omega)
    rw [hT] at this
    exact this
  have HS := fun W v (hS : IsSet W W.heap.size v K) => set_has (x := x) (b := true) hS (by simpa using hm)
  have LA : ∀ W v (hA : IsSet W W.heap.size v A), Calls Try.prog 19 #[v] W fun e w' => e = .returned (.int .i64 (N : Int)) ∧ Below W.heap.size W w' := fun W v h => by
    have := len_any v A W h
    rw [hN] at this
    exact this
  have A2 := fun W v (h : IsSet W W.heap.size v A) => at_any h (by omega) (by omega) h2
  have A3 := fun W v (h : IsSet W W.heap.size v B) => at_any h (by omega) (by omega) h3
  have hNb : N ≤ 17592186043904 := by omega
  obtain ⟨a0, c0, rfl, -⟩ := i0
  have KK := Below.refl w.heap.size w
  replace hJ := Lib.hid hJ
  clear hT
  clear bd hK hul h2 h3 hN hle hlj hA hB hm hx
  go_enter Try.func9, Try.ntmps9
  go_wp2_with (first
    | (go_at_call 11; (with_reducible refine (wbted_any _).mono ?_); rintro e wa ⟨rfl, hb⟩; replace KK := st KK hb; clear hb)
    | (go_at_call 24; (with_reducible refine (H1 _ KK).mono ?_); clear H1; rintro e wb ⟨⟨q1, rfl, hS⟩, hb⟩; have kS := hp.Blk.new wb [.pointer q1] tyH; replace KK := st (st KK hb) ((Below.refl _ _).alloc (Nat.le_refl _) (.cells #[.pointer q1] tyH)); replace hS := hS.on ((Below.refl _ _).alloc (Nat.le_refl _) (.cells #[.pointer q1] tyH)); clear hb; ((try clear cS); have cS := (kS).cell 0; simp only [List.getElem?_cons_zero] at cS); have lS := kS.lt)
    | (go_at_call 25; (with_reducible refine (SP _ _ hS).mono ?_); clear SP; rintro e wd ⟨⟨q3, q4, rfl, hA, hB⟩, hb⟩; have kA := (hp.Blk.new wd [.pointer q3] tyH).on ((Below.refl _ _).alloc (Nat.le_refl _) (.cells #[.pointer q4] tyH)); have kB := hp.Blk.newAt (w := wd.alloc (.cells #[.pointer q3] tyH)) (cs := [.pointer q4]) (t := tyH) (g := wd.heap.size + 1) (by simp); replace KK := st (st (st KK hb) ((Below.refl _ _).alloc (Nat.le_refl _) (.cells #[.pointer q3] tyH))) ((Below.refl _ _).alloc (Nat.le_refl _) (.cells #[.pointer q4] tyH)); replace hS := ((hS.on hb).on ((Below.refl _ _).alloc (Nat.le_refl _) (.cells #[.pointer q3] tyH))).on ((Below.refl _ _).alloc (Nat.le_refl _) (.cells #[.pointer q4] tyH)); replace kS := ((kS.on hb).on ((Below.refl _ _).alloc (Nat.le_refl _) (.cells #[.pointer q3] tyH))).on ((Below.refl _ _).alloc (Nat.le_refl _) (.cells #[.pointer q4] tyH)); replace hA := (hA.on ((Below.refl _ _).alloc (Nat.le_refl _) (.cells #[.pointer q3] tyH))).on ((Below.refl _ _).alloc (Nat.le_refl _) (.cells #[.pointer q4] tyH)); replace hB := (hB.on ((Below.refl _ _).alloc (Nat.le_refl _) (.cells #[.pointer q3] tyH))).on ((Below.refl _ _).alloc (Nat.le_refl _) (.cells #[.pointer q4] tyH)); clear hb cS lS; ((try clear cS); have cS := (kS).cell 0; simp only [List.getElem?_cons_zero] at cS); have lS := kS.lt; ((try clear cA); have cA := (kA).cell 0; simp only [List.getElem?_cons_zero] at cA); have lA := kA.lt; ((try clear cB); have cB := (kB).cell 0; simp only [List.getElem?_cons_zero] at cB); have lB := kB.lt)
    | (go_at_call 29; (with_reducible refine (JN _ _ _ hA hB).mono ?_); clear JN; rintro e we ⟨⟨q5, rfl, hJ⟩, hb⟩; have kJ := hp.Blk.new we [.pointer q5] tyH; have hgb := (st KK hb).size; replace KK := st (st KK hb) ((Below.refl _ _).alloc (Nat.le_refl _) (.cells #[.pointer q5] tyH)); replace hJ := hJ.on ((Below.refl _ _).alloc (Nat.le_refl _) (.cells #[.pointer q5] tyH)); replace hS := hS.on hb; replace hA := hA.on hb; replace hB := hB.on hb; replace kS := kS.on hb; replace kA := kA.on hb; replace kB := kB.on hb; have neS := Nat.ne_of_lt kS.lt; have neA := Nat.ne_of_lt kA.lt; have neB := Nat.ne_of_lt kB.lt; replace hS := hS.on ((Below.refl _ _).alloc (Nat.le_refl _) (.cells #[.pointer q5] tyH)); replace hA := hA.on ((Below.refl _ _).alloc (Nat.le_refl _) (.cells #[.pointer q5] tyH)); replace hB := hB.on ((Below.refl _ _).alloc (Nat.le_refl _) (.cells #[.pointer q5] tyH)); replace kS := kS.on ((Below.refl _ _).alloc (Nat.le_refl _) (.cells #[.pointer q5] tyH)); replace kA := kA.on ((Below.refl _ _).alloc (Nat.le_refl _) (.cells #[.pointer q5] tyH)); replace kB := kB.on ((Below.refl _ _).alloc (Nat.le_refl _) (.cells #[.pointer q5] tyH)); clear hb cS lS cA lA cB lB; ((try clear cS); have cS := (kS).cell 0; simp only [List.getElem?_cons_zero] at cS); have lS := kS.lt; ((try clear cA); have cA := (kA).cell 0; simp only [List.getElem?_cons_zero] at cA); have lA := kA.lt; ((try clear cB); have cB := (kB).cell 0; simp only [List.getElem?_cons_zero] at cB); have lB := kB.lt; ((try clear cJ); have cJ := (kJ).cell 0; simp only [List.getElem?_cons_zero] at cJ); have lJ := kJ.lt)
    | (go_at_call 14; (with_reducible refine (PT _ _ hJ).mono ?_); clear PT; rintro e wf ⟨⟨q6, rfl, hV⟩, hb⟩; replace kJ := kJ.on hb; replace KK := st KK hb; replace hS := hS.on hb; replace hA := hA.on hb; replace hB := hB.on hb; replace kS := kS.on hb; replace kA := kA.on hb; replace kB := kB.on hb; clear hJ hb cS lS cA lA cB lB cJ lJ; (obtain ⟨W9, hW9, kJ9, hJ, KK9, hKp, hsz9, hot⟩ := wbt.stored kJ hgb KK hV); have fJ := kJ.free 0; have lJ0 := kJ.lt; ((try clear cJ); have cJ := (kJ).cell 0; simp only [List.getElem?_cons_zero] at cJ); (have hS9 := (hS.keep hKp).mono (Nat.le_of_eq hsz9.symm)); (have hA9 := (hA.keep hKp).mono (Nat.le_of_eq hsz9.symm)); (have hB9 := (hB.keep hKp).mono (Nat.le_of_eq hsz9.symm)); (have kS9 := hot _ _ _ neS kS); (have kA9 := hot _ _ _ neA kA); (have kB9 := hot _ _ _ neB kB)))
  replace hS := hS9
  replace hA := hA9
  replace hB := hB9
  replace kS := kS9
  replace kA := kA9
  replace kB := kB9
  replace kJ := kJ9
  replace KK := KK9
  clear hS9 hA9 hB9 kS9 kA9 kB9 kJ9 KK9 hW9 hKp hsz9 hot fJ lJ0 cJ hV hgb
  clear neS neA neB
  apply rel.region (C := fun w' => Below W9.heap.size W9 w') (X := fun w w' => Below w.heap.size w w') (by kernel_rfl) (by kernel_rfl) (by kernel_rfl) ((Below.refl _ _).drew)
  ((apply rel.walk_val; (focus (intro wq hq hf; (have d0 := (((kJ).below hq (kJ).lt)).cell 0; simp only [List.getElem?_cons_zero] at d0); go_wp2; refine ⟨hq, Below.refl _ _, ?_, rfl⟩; (show rel.slot _ _ = _; simp only [rel.slot_lit, List.getD_cons_succ, List.getD_cons_zero]; (first | done | exact rfl)))); (simp only [rel.put_lit, List.set_cons_succ, List.set_cons_zero])))
  (apply rel.walk_rel (fun u w' => hp.IsInts w' w'.heap.size u (K)) ⟨_, rfl⟩ (fun u w1 w2 h1 h2 => h2.on h1); (focus (intro wq hq hf; go_wp2_with (go_at_call 18; refine (ints_any (hJ.on hq) hlK.out).mono ?_; rintro e w'' ⟨⟨u, rfl, hu⟩, hb⟩); refine ⟨hq.trans (hb.mono hq.size), hb, ?_, rfl⟩; (show hp.IsInts _ _ (rel.slot _ _) _; simp only [rel.slot_lit, List.getD_cons_succ, List.getD_cons_zero]; exact hu))); (intro u wu _ hu; obtain ⟨pu, cu, rfl, -⟩ := hu; (simp only [rel.put_lit, List.set_cons_succ, List.set_cons_zero])))
  ((apply rel.walk_val; (focus (intro wq hq hf; (have d0 := (((kS).below hq (kS).lt)).cell 0; simp only [List.getElem?_cons_zero] at d0); go_wp2; refine ⟨hq, Below.refl _ _, ?_, rfl⟩; (show rel.slot _ _ = _; simp only [rel.slot_lit, List.getD_cons_succ, List.getD_cons_zero]; (first | done | exact rfl)))); (simp only [rel.put_lit, List.set_cons_succ, List.set_cons_zero])))
  (apply rel.walk_rel (fun u w' => hp.IsInts w' w'.heap.size u (K)) ⟨_, rfl⟩ (fun u w1 w2 h1 h2 => h2.on h1); (focus (intro wq hq hf; go_wp2_with (go_at_call 18; refine (ints_any (hS.on hq) hlK.out).mono ?_; rintro e w'' ⟨⟨u, rfl, hu⟩, hb⟩); refine ⟨hq.trans (hb.mono hq.size), hb, ?_, rfl⟩; (show hp.IsInts _ _ (rel.slot _ _) _; simp only [rel.slot_lit, List.getD_cons_succ, List.getD_cons_zero]; exact hu))); (intro u wu _ hu; obtain ⟨pu_1, cu_1, rfl, -⟩ := hu; (simp only [rel.put_lit, List.set_cons_succ, List.set_cons_zero])))
  (apply rel.walk_val; (focus (intro wq hq hf; go_wp2_with (go_at_call 17; refine (same.ints_eq rfl (hf.get 1 rfl rfl) (hf.get 0 rfl rfl)).mono ?_; rintro e w'' ⟨rfl, hb⟩); refine ⟨hq.trans (hb.mono hq.size), hb, ?_, rfl⟩; (show rel.slot _ _ = _; simp only [rel.slot_lit, List.getD_cons_succ, List.getD_cons_zero]; (first | done | exact rfl)))); (simp only [rel.put_lit, List.set_cons_succ, List.set_cons_zero]))
  (apply rel.walk_val; (focus (intro wq hq hf; go_wp2; refine ⟨hq, Below.refl _ _, ?_, rfl⟩; (show rel.slot _ _ = _; simp only [rel.slot_lit, List.getD_cons_succ, List.getD_cons_zero]; (first | done | exact rfl)))); (simp only [rel.put_lit, List.set_cons_succ, List.set_cons_zero]))
  refine rel.walk_nil ?_
  intro w1 K1 hF
  clear hF kJ hJ
  replace KK := KK.trans (K1.mono KK.size)
  replace hS := hS.on K1
  replace hA := hA.on K1
  replace hB := hB.on K1
  replace kS := kS.on K1
  replace kA := kA.on K1
  replace kB := kB.on K1
  clear K1
  go_wp2_with fail
  apply rel.region (C := fun w' => Below w1.heap.size w1 w') (X := fun w w' => Below w.heap.size w w') (by kernel_rfl) (by kernel_rfl) (by kernel_rfl) ((Below.refl _ _).drew)
  ((apply rel.walk_val; (focus (intro wq hq hf; (have d0 := (((kA).below hq (kA).lt)).cell 0; simp only [List.getElem?_cons_zero] at d0); go_wp2; refine ⟨hq, Below.refl _ _, ?_, rfl⟩; (show rel.slot _ _ = _; simp only [rel.slot_lit, List.getD_cons_succ, List.getD_cons_zero]; (first | done | exact rfl)))); (simp only [rel.put_lit, List.set_cons_succ, List.set_cons_zero])))
  ((apply rel.walk_val; (focus (intro wq hq hf; (have d0 := (((kA).below hq (kA).lt)).cell 0; simp only [List.getElem?_cons_zero] at d0); go_wp2; refine ⟨hq, Below.refl _ _, ?_, rfl⟩; (show rel.slot _ _ = _; simp only [rel.slot_lit, List.getD_cons_succ, List.getD_cons_zero]; (first | done | exact rfl)))); (simp only [rel.put_lit, List.set_cons_succ, List.set_cons_zero])))
  (apply rel.walk_val; (focus (intro wq hq hf; go_wp2_with (go_at_call 19; refine (LA _ _ (hA.on hq)).mono ?_; rintro e w'' ⟨rfl, hb⟩); refine ⟨hq.trans (hb.mono hq.size), hb, ?_, rfl⟩; (show rel.slot _ _ = _; simp only [rel.slot_lit, List.getD_cons_succ, List.getD_cons_zero]; (first | done | exact rfl)))); (simp only [rel.put_lit, List.set_cons_succ, List.set_cons_zero]))
  (apply rel.walk_val; (focus (intro wq hq hf; go_wp2; refine ⟨hq, Below.refl _ _, ?_, rfl⟩; (show rel.slot _ _ = _; simp only [rel.slot_lit, List.getD_cons_succ, List.getD_cons_zero]; (first | done | exact rfl)))); (simp only [rel.put_lit, List.set_cons_succ, List.set_cons_zero]))
  (apply rel.walk_val; (focus (intro wq hq hf; go_wp2_with (go_at_call 33; refine (A2 _ _ (hA.on hq)).mono ?_; rintro e w'' ⟨rfl, hb⟩); refine ⟨hq.trans (hb.mono hq.size), hb, ?_, rfl⟩; (show rel.slot _ _ = _; simp only [rel.slot_lit, List.getD_cons_succ, List.getD_cons_zero]; (first | done | exact rfl)))); (simp only [rel.put_lit, List.set_cons_succ, List.set_cons_zero]))
  (apply rel.walk_val; (focus (intro wq hq hf; go_wp2; refine ⟨hq, Below.refl _ _, ?_, rfl⟩; (show rel.slot _ _ = _; simp only [rel.slot_lit, List.getD_cons_succ, List.getD_cons_zero]; (first | done | exact rfl)))); (simp only [rel.put_lit, List.set_cons_succ, List.set_cons_zero]))
  (apply rel.walk_val; (focus (intro wq hq hf; go_wp2; refine ⟨hq, Below.refl _ _, ?_, rfl⟩; (show rel.slot _ _ = _; simp only [rel.slot_lit, List.getD_cons_succ, List.getD_cons_zero]; (first | done | exact rfl)))); (simp only [rel.put_lit, List.set_cons_succ, List.set_cons_zero]))
  (apply rel.walk_val; (focus (intro wq hq hf; go_wp2; refine ⟨hq, Below.refl _ _, ?_, rfl⟩; (show rel.slot _ _ = _; simp only [rel.slot_lit, List.getD_cons_succ, List.getD_cons_zero]; (first | done | exact rfl)))); (simp only [rel.put_lit, List.set_cons_succ, List.set_cons_zero]))
  (apply rel.walk_val; (focus (intro wq hq hf; go_wp2; refine ⟨hq, Below.refl _ _, ?_, rfl⟩; (show rel.slot _ _ = _; simp only [rel.slot_lit, List.getD_cons_succ, List.getD_cons_zero]; (first | done | exact rfl)))); (simp only [rel.put_lit, List.set_cons_succ, List.set_cons_zero]))
  (apply rel.walk_val; (focus (intro wq hq hf; go_wp2; refine ⟨hq, Below.refl _ _, ?_, rfl⟩; (show rel.slot _ _ = _; simp only [rel.slot_lit, List.getD_cons_succ, List.getD_cons_zero]; (first | done | exact rfl)))); (simp only [rel.put_lit, List.set_cons_succ, List.set_cons_zero]))
  refine rel.walk_nil ?_
  intro w2 K2 hF
  clear hF LA A2 kA hA
  replace KK := KK.trans (K2.mono KK.size)
  replace hS := hS.on K2
  replace hB := hB.on K2
  replace kS := kS.on K2
  replace kB := kB.on K2
  clear K2
  ((try clear cS); have cS := (kS).cell 0; simp only [List.getElem?_cons_zero] at cS); ((try clear cB); have cB := (kB).cell 0; simp only [List.getElem?_cons_zero] at cB); have lS := kS.lt; have lB := kB.lt
  rcases hy with ⟨rfl, hy⟩ | rfl <;> rcases hz with ⟨rfl, hz⟩ | rfl <;> (
    go_wp2_with (first
      | (go_at_call 33; (with_reducible refine (A3 _ _ hB).mono ?_); rintro e wc ⟨rfl, hb⟩; replace KK := KK.trans (hb.mono KK.size); replace hS := hS.on hb; replace kS := kS.on hb; clear hb cB lB cS lS hB kB; ((try clear cS); have cS := (kS).cell 0; simp only [List.getElem?_cons_zero] at cS); have lS := kS.lt)
      | (go_at_call 20; (with_reducible refine (HS _ _ hS).mono ?_); rintro e wd ⟨rfl, hb⟩; replace KK := KK.trans (hb.mono KK.size); clear hb cS lS hS kS))
    go_ret
    exact ⟨rfl, KK⟩)

theorem walk (v0 : Value) (l0 : List Int) (x : Int) (w : World) (i0 : hp.IsInts w w.heap.size v0 l0) (w1 : (Lit.int .i64 x).wf = true) (bd : l0.length ≤ 17592186043904) :
    Calls Try.prog 9 #[v0, .int .i64 x] w fun e w' => e = .returned (.bool true) ∧ Below w.heap.size w w' := by
  obtain ⟨K, hK⟩ : ∃ K, uniq l0 = K := ⟨_, rfl⟩
  have aK : Asc K := by rw [← hK]; exact uniq_asc l0
  have hlt : ∀ z ∈ lo x K, z < x := fun z hz => (mem_lo.1 hz).2
  have hgt : ∀ z ∈ hi x K, x < z := fun z hz => (mem_hi.1 hz).2
  obtain ⟨A, hA⟩ : ∃ A, lo x K = A := ⟨_, rfl⟩
  obtain ⟨B, hB⟩ : ∃ B, hi x K = B := ⟨_, rfl⟩
  have aA : Asc A := by rw [← hA]; exact lo_asc x aK
  have aB : Asc B := by rw [← hB]; exact hi_asc x aK
  rw [hA] at hlt
  rw [hB] at hgt
  obtain ⟨y, low, h2, hy⟩ : ∃ y low, at_ A ((A.length : Int) - 1) = (y, low) ∧ ((low = true ∧ y < x) ∨ low = false) := by
    by_cases h : A = []
    · subst h
      exact ⟨0, false, at_nil _, .inr rfl⟩
    · obtain ⟨y, e, hm, -⟩ := at_last aA h
      exact ⟨y, true, e, .inl ⟨rfl, hlt y hm⟩⟩
  obtain ⟨z, high, h3, hz⟩ : ∃ z high, at_ B 0 = (z, high) ∧ ((high = true ∧ x < z) ∨ high = false) := by
    rcases B with _ | ⟨z, tl⟩
    · exact ⟨0, false, at_nil _, .inr rfl⟩
    · exact ⟨z, true, (at_first aB).1, .inl ⟨rfl, hgt z (by simp)⟩⟩
  by_cases hm : x ∈ K
  · exact core_yes v0 l0 x y z low high K A B (uni A B) A.length w i0 bd hK hA hB rfl rfl w1 hm (by rw [← hA, ← hB]; exact joined_put aK hm) h2 h3 hy hz
  · exact core_no v0 l0 x y z low high K A B A.length w i0 bd hK hA hB (by rw [← hA, ← hB]; exact joined_not aK hm) rfl w1 hm h2 h3 hy hz
end Go.Proofs.Ytbdmccokdbfkpaa.wbtSplits
