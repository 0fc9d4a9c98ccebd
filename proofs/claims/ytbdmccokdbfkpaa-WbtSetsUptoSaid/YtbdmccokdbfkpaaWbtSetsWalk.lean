/- The walk of WbtSets. -/
import Derived.Test.YtbdmccokdbfkpaaWbtWalks
import Derived.Test.YtbdmccokdbfkpaaWbtJoin
import Derived.Test.YtbdmccokdbfkpaaWbtSift
namespace Go.Proofs.Ytbdmccokdbfkpaa.wbtSets
open Go Go.RowKit Go.Proofs.Ytbdmccokdbfkpaa.wbt Go.Proofs.Ytbdmccokdbfkpaa.sch
set_option linter.unusedVariables false

/-- what is less stands ahead -/
theorem parted (x : Int) : ∀ {l : List Int}, Asc l → ∃ b, l = lo x l ++ b ∧ ∀ y ∈ b, x ≤ y
  | [], _ => ⟨[], rfl, by simp⟩
  | y :: l, h => by
    by_cases hy : y < x
    · obtain ⟨b, e, hb⟩ := parted x (List.pairwise_cons.1 h).2
      refine ⟨b, ?_, hb⟩
      rw [show lo x (y :: l) = y :: lo x l from List.filter_cons_of_pos (by simpa using hy), List.cons_append, ← e]
    · refine ⟨y :: l, ?_, fun z hz => ?_⟩
      · rw [lo_none]
        · rfl
        · intro z hz
          rcases List.mem_cons.1 hz with rfl | hz
          · omega
          · have := (List.pairwise_cons.1 h).1 z hz; omega
      · rcases List.mem_cons.1 hz with rfl | hz
        · omega
        · have := (List.pairwise_cons.1 h).1 z hz; omega
theorem uni_uniq (l m : List Int) : uni (uniq l) (uniq m) = uniq (l ++ m) := by
  refine uniq_of (uni_asc _ _) fun z => ?_
  rw [mem_uni, mem_uniq, mem_uniq, List.mem_append]
theorem oft_as {v : Value} {l : List Int} {a : Int} {q : Nat} {w : World} (hq : same.oft l a = q) (hv : hp.IsInts w w.heap.size v l) :
    Calls Try.prog 21 #[v, .int .i64 a] w fun e w' => e = .returned (.int .i64 q) ∧ Below w.heap.size w w' := by
  subst hq
  exact same.often_any v l a w hv
theorem below_as {v : Value} {l : List Int} {a : Int} {q : Nat} {w : World} (hq : same.cnt l a = q) (hv : hp.IsInts w w.heap.size v l) :
    Calls Try.prog 31 #[v, .int .i64 a] w fun e w' => e = .returned (.int .i64 q) ∧ Below w.heap.size w w' := by
  subst hq
  exact same.below_any v l a w hv
theorem rank_as {v : Value} {l : List Int} {x : Int} {q : Nat} {w : World} (hq : same.cnt l x = q) (hv : IsSet w w.heap.size v l) (hbd : l.length < 576460752303423400) :
    Calls Try.prog 32 #[v, .int .i64 x] w fun e w' => e = .returned (.int .i64 q) ∧ Below w.heap.size w w' := by
  subst hq
  exact rank_any hv hbd

set_option maxRecDepth 100000 in
set_option maxHeartbeats 32000000 in
attribute [-go_sem] sliced in
theorem core_no (v0 : Value) (l0 : List Int) (v1 : Value) (l1 : List Int) (x i y : Int) (is : Bool) (K M U C E F A B : List Int) (N o : Nat) (w : World) (i0 : hp.IsInts w w.heap.size v0 l0) (i1 : hp.IsInts w w.heap.size v1 l1) (bd : l0.length + l1.length ≤ 1048576)
    (hK : uniq l0 = K) (hM : uniq l1 = M) (hU : uni K M = U) (hC : l0 ++ l1 = C) (hE : cho true K M = E) (hF : cho false K M = F) (hA : lo x K = A) (hB : hi x K = B) (hN : same.cnt K x = N) (ho : same.oft K x = o) (hA2 : K.take N = A) (hm : x ∉ K) (hB2 : K.drop N = B) (hi2 : i ≤ 9223372036854775807) (h1 : at_ K i = (y, is))
    (hz : (is = true ∧ 0 ≤ i ∧ i < K.length ∧ K.getD i.toNat 0 = y) ∨ (is = false ∧ y = 0 ∧ i < 0) ∨ (is = false ∧ y = 0 ∧ 0 ≤ i ∧ ¬ i < K.length)) :
    Calls Try.prog 6 #[v0, v1, .int .i64 x, .int .i64 i] w fun e w' => e = .returned (.bool true) ∧ Below w.heap.size w w' := by
  have hul := uniq_le l0
  have hul1 := uniq_le l1
  have aK : Asc K := by rw [← hK]; exact uniq_asc l0
  have hUU : uniq C = U := by rw [← hC, ← uni_uniq, hK, hM, hU]
  rw [hK] at hul
  rw [hM] at hul1
  have hlU := uni_le K M
  have hlE := cho_le true K M
  have hlF := cho_le false K M
  have hlA := lo_hi_le x K
  have hlC : C.length = l0.length + l1.length := by rw [← hC, List.length_append]
  rw [hU] at hlU
  rw [hE] at hlE
  rw [hF] at hlF
  rw [hA, hB] at hlA
  have hNL := wbt.cnt_le K x
  rw [hN] at hNL
  have hUl := Lib.hid (show U.length ≤ 17592186044416 by omega)
  have hEl := Lib.hid (show E.length ≤ 17592186044416 by omega)
  have hFl := Lib.hid (show F.length ≤ 17592186044416 by omega)
  have hAl := Lib.hid (show A.length ≤ 17592186044416 by omega)
  have hBl := Lib.hid (show B.length ≤ 17592186044416 by omega)
  have H1 := fun W (h : hp.IsInts W W.heap.size v0 l0) => of_as hK h (by omega)
  have H2 := fun W (h : hp.IsInts W W.heap.size v1 l1) => of_as hM h (by omega)
  have O1 : ∀ W (h : hp.IsInts W W.heap.size v0 l0), Calls Try.prog 15 #[v0] W fun e w' => (∃ u, e = .returned u ∧ hp.IsInts w' w'.heap.size u K) ∧ Below W.heap.size W w' := fun W h => by
    have := same.once_any h (by omega)
    rw [hK] at this
    exact this
  have O2 : ∀ W (h : hp.IsInts W W.heap.size v1 l1), Calls Try.prog 15 #[v1] W fun e w' => (∃ u, e = .returned u ∧ hp.IsInts w' w'.heap.size u M) ∧ Below W.heap.size W w' := fun W h => by
    have := same.once_any h (by omega)
    rw [hM] at this
    exact this
  have ON : ∀ W v (h : hp.IsInts W W.heap.size v C), Calls Try.prog 15 #[v] W fun e w' => (∃ u, e = .returned u ∧ hp.IsInts w' w'.heap.size u U) ∧ Below W.heap.size W w' := fun W v h => by
    have := same.once_any h (by omega)
    rw [hUU] at this
    exact this
  have CA := fun W v u (h : hp.IsInts W W.heap.size v l0) (h' : hp.IsInts W W.heap.size u l1) => same.cat_eq hC h h' (by omega)
  have UN : ∀ W v u (h : IsSet W W.heap.size v K) (h' : IsSet W W.heap.size u M), Calls Try.prog 26 #[v, u] W fun e w' => (∃ q, e = .returned (rv q) ∧ IsSet w' w'.heap.size (rv q) U) ∧ Below W.heap.size W w' := fun W v u h h' => by
    have := set_union h h' (by omega)
    rw [hU] at this
    exact this
  have JN : ∀ W v u (h : IsSet W W.heap.size v K) (h' : IsSet W W.heap.size u M), Calls Try.prog 29 #[v, u] W fun e w' => (∃ q, e = .returned (rv q) ∧ IsSet w' w'.heap.size (rv q) U) ∧ Below W.heap.size W w' := fun W v u h h' => by
    have := set_join h h' (by omega)
    rw [hU] at this
    exact this
  have IN : ∀ W v u (h : IsSet W W.heap.size v K) (h' : IsSet W W.heap.size u M), Calls Try.prog 27 #[v, u] W fun e w' => (∃ q, e = .returned (rv q) ∧ IsSet w' w'.heap.size (rv q) E) ∧ Below W.heap.size W w' := fun W v u h h' => by
    have := set_inter h h' (by omega)
    rw [hE] at this
    exact this
  have DF : ∀ W v u (h : IsSet W W.heap.size v K) (h' : IsSet W W.heap.size u M), Calls Try.prog 28 #[v, u] W fun e w' => (∃ q, e = .returned (rv q) ∧ IsSet w' w'.heap.size (rv q) F) ∧ Below W.heap.size W w' := fun W v u h h' => by
    have := set_diff h h' (by omega)
    rw [hF] at this
    exact this
  have SI := fun W v u (h : hp.IsInts W W.heap.size v K) (h' : hp.IsInts W W.heap.size u M) => sift_as hE h h' (by omega) (by omega)
  have SD := fun W v u (h : hp.IsInts W W.heap.size v K) (h' : hp.IsInts W W.heap.size u M) => sift_as hF h h' (by omega) (by omega)
  have SP : ∀ W v (hS : IsSet W W.heap.size v K), Calls Try.prog 25 #[v, .int .i64 x] W fun e w' => (∃ q r, e = .returned (.tuple #[rv q, .bool false, rv r]) ∧ IsSet w' w'.heap.size (rv q) A ∧ IsSet w' w'.heap.size (rv r) B) ∧ Below W.heap.size W w' := fun W v hS => by
    have := set_split (x := x) hS (by omega)
    rw [hA, hB, show decide (x ∈ K) = false by simpa using hm] at this
    exact this
  have BL := fun W v (h : hp.IsInts W W.heap.size v K) => below_as hN h
  have OF := fun W v (h : hp.IsInts W W.heap.size v K) => oft_as ho h
  have RK := fun W v (h : IsSet W W.heap.size v K) => rank_as hN h (by omega)
  have AT := fun W v (h : IsSet W W.heap.size v K) => at_any h (by omega) hi2 h1
  have S1 : Hid (∀ W a c, hp.IsInts W W.heap.size (.slice a K.length c) K → hp.IsInts W W.heap.size (Go.sliced a 0 N c 1) A) := Lib.hid fun W a c h => by
    have := h.sliced (i := 0) (j := N) (Nat.zero_le _) (by omega)
    rw [List.drop_zero, hA2] at this
    exact this
  have S2 : Hid (∀ W a c, hp.IsInts W W.heap.size (.slice a K.length c) K → hp.IsInts W W.heap.size (Go.sliced a N K.length c 1) B) := Lib.hid fun W a c h => by
    have := h.from (i := N) (by omega)
    rw [hB2] at this
    exact this
  have hoo : ¬ 0 < o := by
    rw [← ho]
    rw [same.oft_zero.2 hm]; simp
  have hNb : N ≤ 1048576 ∧ K.length ≤ 1048576 ∧ o ≤ 1048576 := by
    have := same.oft_le K x
    omega
  obtain ⟨hNb, hLb, hob⟩ := hNb
  have cP : Hid (∀ W a c, hp.IsInts W W.heap.size (.slice a K.length c) K → 0 ≤ i → i < K.length → ∃ b off, a = some ⟨b, off, none⟩ ∧ b < W.heap.size ∧ W.cell? ⟨b, off + i.toNat, none⟩ = some (.int .i64 (K.getD i.toNat 0))) := Lib.hid fun W a c h h0 h1 => by
    obtain ⟨b, off, e, hb, hc⟩ := h.at (by omega)
    exact ⟨b, off, e, hb, hc _ (by omega)⟩
  have i0' := i0
  have i1' := i1
  obtain ⟨a0, c0, rfl, -⟩ := i0'
  obtain ⟨a1, c1, rfl, -⟩ := i1'
  have KK := Below.refl w.heap.size w
  clear bd hul hul1 aK hUU hlU hlE hlF hlA hlC hK hM hU hC hE hF hA hB hN ho hA2 hB2 hm h1 hi2
  replace hz := Lib.hid hz
  go_enter Try.func6, Try.ntmps6
  go_wp2_with (first
    | (go_at_call 11; (with_reducible refine (wbted_any _).mono ?_); rintro e wa ⟨rfl, hb⟩; replace KK := st KK hb; replace i0 := i0.on hb; replace i1 := i1.on hb; clear hb)
    | (go_at_call 24; (with_reducible refine (H1 _ i0).mono ?_); clear H1; rintro e wb ⟨⟨q1, rfl, hS⟩, hb⟩; have kS := hp.Blk.new wb [.pointer q1] tyH; replace KK := st (st KK hb) ((Below.refl _ _).alloc (Nat.le_refl _) (.cells #[.pointer q1] tyH)); replace hS := hS.on ((Below.refl _ _).alloc (Nat.le_refl _) (.cells #[.pointer q1] tyH)); replace i0 := (i0.on hb).on ((Below.refl _ _).alloc (Nat.le_refl _) (.cells #[.pointer q1] tyH)); replace i1 := (i1.on hb).on ((Below.refl _ _).alloc (Nat.le_refl _) (.cells #[.pointer q1] tyH)); clear hb)
    | (go_at_call 24; (with_reducible refine (H2 _ i1).mono ?_); clear H2; rintro e wc ⟨⟨q2, rfl, hT⟩, hb⟩; have kT := hp.Blk.new wc [.pointer q2] tyH; replace KK := st (st KK hb) ((Below.refl _ _).alloc (Nat.le_refl _) (.cells #[.pointer q2] tyH)); replace hT := hT.on ((Below.refl _ _).alloc (Nat.le_refl _) (.cells #[.pointer q2] tyH)); replace hS := (hS.on hb).on ((Below.refl _ _).alloc (Nat.le_refl _) (.cells #[.pointer q2] tyH)); replace kS := (kS.on hb).on ((Below.refl _ _).alloc (Nat.le_refl _) (.cells #[.pointer q2] tyH)); replace i0 := (i0.on hb).on ((Below.refl _ _).alloc (Nat.le_refl _) (.cells #[.pointer q2] tyH)); replace i1 := (i1.on hb).on ((Below.refl _ _).alloc (Nat.le_refl _) (.cells #[.pointer q2] tyH)); clear hb; ((try clear cS); have cS := (kS).cell 0; simp only [List.getElem?_cons_zero] at cS); ((try clear cT); have cT := (kT).cell 0; simp only [List.getElem?_cons_zero] at cT); have lS := kS.lt; have lT := kT.lt)
    | (go_at_call 15; (with_reducible refine (O1 _ i0).mono ?_); clear O1; rintro e wd ⟨⟨u_p, rfl, hP⟩, hb⟩; replace KK := st KK hb; replace hS := hS.on hb; replace hT := hT.on hb; replace kS := kS.on hb; replace kT := kT.on hb; replace i0 := i0.on hb; replace i1 := i1.on hb; clear hb; clear cS cT lS lT; ((try clear cS); have cS := (kS).cell 0; simp only [List.getElem?_cons_zero] at cS); ((try clear cT); have cT := (kT).cell 0; simp only [List.getElem?_cons_zero] at cT); have lS := kS.lt; have lT := kT.lt; have hP2 := hP; obtain ⟨ap, cp, rfl, -⟩ := hP2)
    | (go_at_call 15; (with_reducible refine (O2 _ i1).mono ?_); clear O2; rintro e we ⟨⟨u_q, rfl, hQ⟩, hb⟩; replace KK := st KK hb; replace hS := hS.on hb; replace hT := hT.on hb; replace kS := kS.on hb; replace kT := kT.on hb; replace i0 := i0.on hb; replace i1 := i1.on hb; replace hP := hP.on hb; clear hb; clear cS cT lS lT; ((try clear cS); have cS := (kS).cell 0; simp only [List.getElem?_cons_zero] at cS); ((try clear cT); have cT := (kT).cell 0; simp only [List.getElem?_cons_zero] at cT); have lS := kS.lt; have lT := kT.lt; have hQ2 := hQ; obtain ⟨aq, cq, rfl, -⟩ := hQ2)
    | (go_at_call 26; (with_reducible refine (UN _ _ _ hS hT).mono ?_); rintro e wz ⟨⟨q_hU, rfl, hU⟩, hb⟩; replace KK := st KK hb; replace hS := hS.on hb; replace hT := hT.on hb; replace kS := kS.on hb; replace kT := kT.on hb; replace i0 := i0.on hb; replace i1 := i1.on hb; replace hP := hP.on hb; replace hQ := hQ.on hb; clear hb; clear cS cT lS lT; ((try clear cS); have cS := (kS).cell 0; simp only [List.getElem?_cons_zero] at cS); ((try clear cT); have cT := (kT).cell 0; simp only [List.getElem?_cons_zero] at cT); have lS := kS.lt; have lT := kT.lt)
    | (go_at_call 18; (with_reducible refine (ints_any hU hUl.out).mono ?_); rintro e wz ⟨⟨u_hI, rfl, hI⟩, hb⟩; replace KK := st KK hb; replace hS := hS.on hb; replace hT := hT.on hb; replace kS := kS.on hb; replace kT := kT.on hb; replace i0 := i0.on hb; replace i1 := i1.on hb; replace hP := hP.on hb; replace hQ := hQ.on hb; clear hU; clear hb; clear cS cT lS lT; ((try clear cS); have cS := (kS).cell 0; simp only [List.getElem?_cons_zero] at cS); ((try clear cT); have cT := (kT).cell 0; simp only [List.getElem?_cons_zero] at cT); have lS := kS.lt; have lT := kT.lt)
    | (go_at_call 16; (with_reducible refine (CA _ _ _ i0 i1).mono ?_); rintro e wz ⟨⟨u_hC, rfl, hC⟩, hb⟩; replace KK := st KK hb; replace hS := hS.on hb; replace hT := hT.on hb; replace kS := kS.on hb; replace kT := kT.on hb; replace i0 := i0.on hb; replace i1 := i1.on hb; replace hP := hP.on hb; replace hQ := hQ.on hb; replace hI := hI.on hb; clear hb; clear cS cT lS lT; ((try clear cS); have cS := (kS).cell 0; simp only [List.getElem?_cons_zero] at cS); ((try clear cT); have cT := (kT).cell 0; simp only [List.getElem?_cons_zero] at cT); have lS := kS.lt; have lT := kT.lt)
    | (go_at_call 15; (with_reducible refine (ON _ _ hC).mono ?_); rintro e wz ⟨⟨u_hJ, rfl, hJ⟩, hb⟩; replace KK := st KK hb; replace hS := hS.on hb; replace hT := hT.on hb; replace kS := kS.on hb; replace kT := kT.on hb; replace i0 := i0.on hb; replace i1 := i1.on hb; replace hP := hP.on hb; replace hQ := hQ.on hb; replace hI := hI.on hb; clear hC; clear hb; clear cS cT lS lT; ((try clear cS); have cS := (kS).cell 0; simp only [List.getElem?_cons_zero] at cS); ((try clear cT); have cT := (kT).cell 0; simp only [List.getElem?_cons_zero] at cT); have lS := kS.lt; have lT := kT.lt)
    | (go_at_call 17; (with_reducible refine (same.ints_eq rfl hI hJ).mono ?_); rintro e wz ⟨rfl, hb⟩; replace KK := st KK hb; replace hS := hS.on hb; replace hT := hT.on hb; replace kS := kS.on hb; replace kT := kT.on hb; replace i0 := i0.on hb; replace i1 := i1.on hb; replace hP := hP.on hb; replace hQ := hQ.on hb; clear hI hJ; clear hb; clear cS cT lS lT; ((try clear cS); have cS := (kS).cell 0; simp only [List.getElem?_cons_zero] at cS); ((try clear cT); have cT := (kT).cell 0; simp only [List.getElem?_cons_zero] at cT); have lS := kS.lt; have lT := kT.lt)
    | (go_at_call 27; (with_reducible refine (IN _ _ _ hS hT).mono ?_); rintro e wz ⟨⟨q_hE, rfl, hE⟩, hb⟩; replace KK := st KK hb; replace hS := hS.on hb; replace hT := hT.on hb; replace kS := kS.on hb; replace kT := kT.on hb; replace i0 := i0.on hb; replace i1 := i1.on hb; replace hP := hP.on hb; replace hQ := hQ.on hb; clear hb; clear cS cT lS lT; ((try clear cS); have cS := (kS).cell 0; simp only [List.getElem?_cons_zero] at cS); ((try clear cT); have cT := (kT).cell 0; simp only [List.getElem?_cons_zero] at cT); have lS := kS.lt; have lT := kT.lt)
    | (go_at_call 18; (with_reducible refine (ints_any hE hEl.out).mono ?_); rintro e wz ⟨⟨u_hI, rfl, hI⟩, hb⟩; replace KK := st KK hb; replace hS := hS.on hb; replace hT := hT.on hb; replace kS := kS.on hb; replace kT := kT.on hb; replace i0 := i0.on hb; replace i1 := i1.on hb; replace hP := hP.on hb; replace hQ := hQ.on hb; clear hE; clear hb; clear cS cT lS lT; ((try clear cS); have cS := (kS).cell 0; simp only [List.getElem?_cons_zero] at cS); ((try clear cT); have cT := (kT).cell 0; simp only [List.getElem?_cons_zero] at cT); have lS := kS.lt; have lT := kT.lt)
    | (go_at_call 13; (with_reducible refine (SI _ _ _ hP hQ).mono ?_); rintro e wz ⟨⟨u_hJ, rfl, hJ⟩, hb⟩; replace KK := st KK hb; replace hS := hS.on hb; replace hT := hT.on hb; replace kS := kS.on hb; replace kT := kT.on hb; replace i0 := i0.on hb; replace i1 := i1.on hb; replace hP := hP.on hb; replace hQ := hQ.on hb; replace hI := hI.on hb; clear hb; clear cS cT lS lT; ((try clear cS); have cS := (kS).cell 0; simp only [List.getElem?_cons_zero] at cS); ((try clear cT); have cT := (kT).cell 0; simp only [List.getElem?_cons_zero] at cT); have lS := kS.lt; have lT := kT.lt)
    | (go_at_call 28; (with_reducible refine (DF _ _ _ hS hT).mono ?_); rintro e wz ⟨⟨q_hF, rfl, hF⟩, hb⟩; replace KK := st KK hb; replace hS := hS.on hb; replace hT := hT.on hb; replace kS := kS.on hb; replace kT := kT.on hb; replace i0 := i0.on hb; replace i1 := i1.on hb; replace hP := hP.on hb; replace hQ := hQ.on hb; clear hb; clear cS cT lS lT; ((try clear cS); have cS := (kS).cell 0; simp only [List.getElem?_cons_zero] at cS); ((try clear cT); have cT := (kT).cell 0; simp only [List.getElem?_cons_zero] at cT); have lS := kS.lt; have lT := kT.lt)
    | (go_at_call 18; (with_reducible refine (ints_any hF hFl.out).mono ?_); rintro e wz ⟨⟨u_hI, rfl, hI⟩, hb⟩; replace KK := st KK hb; replace hS := hS.on hb; replace hT := hT.on hb; replace kS := kS.on hb; replace kT := kT.on hb; replace i0 := i0.on hb; replace i1 := i1.on hb; replace hP := hP.on hb; replace hQ := hQ.on hb; clear hF; clear hb; clear cS cT lS lT; ((try clear cS); have cS := (kS).cell 0; simp only [List.getElem?_cons_zero] at cS); ((try clear cT); have cT := (kT).cell 0; simp only [List.getElem?_cons_zero] at cT); have lS := kS.lt; have lT := kT.lt)
    | (go_at_call 13; (with_reducible refine (SD _ _ _ hP hQ).mono ?_); rintro e wz ⟨⟨u_hJ, rfl, hJ⟩, hb⟩; replace KK := st KK hb; replace hS := hS.on hb; replace hT := hT.on hb; replace kS := kS.on hb; replace kT := kT.on hb; replace i0 := i0.on hb; replace i1 := i1.on hb; replace hP := hP.on hb; replace hQ := hQ.on hb; replace hI := hI.on hb; clear hb; clear cS cT lS lT; ((try clear cS); have cS := (kS).cell 0; simp only [List.getElem?_cons_zero] at cS); ((try clear cT); have cT := (kT).cell 0; simp only [List.getElem?_cons_zero] at cT); have lS := kS.lt; have lT := kT.lt)
    | (go_at_call 25; (with_reducible refine (SP _ _ hS).mono ?_); clear SP; rintro e wd ⟨⟨q3, q4, rfl, hA, hB⟩, hb⟩; have kA := (hp.Blk.new wd [.pointer q3] tyH).on ((Below.refl _ _).alloc (Nat.le_refl _) (.cells #[.pointer q4] tyH)); have kB := hp.Blk.newAt (w := wd.alloc (.cells #[.pointer q3] tyH)) (cs := [.pointer q4]) (t := tyH) (g := wd.heap.size + 1) (by simp); replace KK := st (st (st KK hb) ((Below.refl _ _).alloc (Nat.le_refl _) (.cells #[.pointer q3] tyH))) ((Below.refl _ _).alloc (Nat.le_refl _) (.cells #[.pointer q4] tyH)); replace hS := hS.on hb; replace hT := hT.on hb; replace kS := kS.on hb; replace kT := kT.on hb; replace i0 := i0.on hb; replace i1 := i1.on hb; replace hP := hP.on hb; replace hQ := hQ.on hb; replace hS := hS.on ((Below.refl _ _).alloc (Nat.le_refl _) (.cells #[.pointer q3] tyH)); replace hT := hT.on ((Below.refl _ _).alloc (Nat.le_refl _) (.cells #[.pointer q3] tyH)); replace kS := kS.on ((Below.refl _ _).alloc (Nat.le_refl _) (.cells #[.pointer q3] tyH)); replace kT := kT.on ((Below.refl _ _).alloc (Nat.le_refl _) (.cells #[.pointer q3] tyH)); replace i0 := i0.on ((Below.refl _ _).alloc (Nat.le_refl _) (.cells #[.pointer q3] tyH)); replace i1 := i1.on ((Below.refl _ _).alloc (Nat.le_refl _) (.cells #[.pointer q3] tyH)); replace hP := hP.on ((Below.refl _ _).alloc (Nat.le_refl _) (.cells #[.pointer q3] tyH)); replace hQ := hQ.on ((Below.refl _ _).alloc (Nat.le_refl _) (.cells #[.pointer q3] tyH)); replace hS := hS.on ((Below.refl _ _).alloc (Nat.le_refl _) (.cells #[.pointer q4] tyH)); replace hT := hT.on ((Below.refl _ _).alloc (Nat.le_refl _) (.cells #[.pointer q4] tyH)); replace kS := kS.on ((Below.refl _ _).alloc (Nat.le_refl _) (.cells #[.pointer q4] tyH)); replace kT := kT.on ((Below.refl _ _).alloc (Nat.le_refl _) (.cells #[.pointer q4] tyH)); replace i0 := i0.on ((Below.refl _ _).alloc (Nat.le_refl _) (.cells #[.pointer q4] tyH)); replace i1 := i1.on ((Below.refl _ _).alloc (Nat.le_refl _) (.cells #[.pointer q4] tyH)); replace hP := hP.on ((Below.refl _ _).alloc (Nat.le_refl _) (.cells #[.pointer q4] tyH)); replace hQ := hQ.on ((Below.refl _ _).alloc (Nat.le_refl _) (.cells #[.pointer q4] tyH)); replace hA := (hA.on ((Below.refl _ _).alloc (Nat.le_refl _) (.cells #[.pointer q3] tyH))).on ((Below.refl _ _).alloc (Nat.le_refl _) (.cells #[.pointer q4] tyH)); replace hB := (hB.on ((Below.refl _ _).alloc (Nat.le_refl _) (.cells #[.pointer q3] tyH))).on ((Below.refl _ _).alloc (Nat.le_refl _) (.cells #[.pointer q4] tyH)); clear hb; clear cS cT lS lT; ((try clear cS); have cS := (kS).cell 0; simp only [List.getElem?_cons_zero] at cS); ((try clear cT); have cT := (kT).cell 0; simp only [List.getElem?_cons_zero] at cT); have lS := kS.lt; have lT := kT.lt; ((try clear cA); have cA := (kA).cell 0; simp only [List.getElem?_cons_zero] at cA); ((try clear cB); have cB := (kB).cell 0; simp only [List.getElem?_cons_zero] at cB); have lA := kA.lt; have lB := kB.lt)
    | (go_at_call 31; (with_reducible refine (BL _ _ hP).mono ?_); clear BL; rintro e wz ⟨rfl, hb⟩; replace KK := st KK hb; replace hS := hS.on hb; replace hT := hT.on hb; replace kS := kS.on hb; replace kT := kT.on hb; replace i0 := i0.on hb; replace i1 := i1.on hb; replace hP := hP.on hb; replace hQ := hQ.on hb; replace hA := hA.on hb; replace hB := hB.on hb; replace kA := kA.on hb; replace kB := kB.on hb; clear hb cA cB lA lB; clear cS cT lS lT; ((try clear cS); have cS := (kS).cell 0; simp only [List.getElem?_cons_zero] at cS); ((try clear cT); have cT := (kT).cell 0; simp only [List.getElem?_cons_zero] at cT); have lS := kS.lt; have lT := kT.lt))
  have hcp := hP.cap
  have hNc : N ≤ cp := by omega
  apply rel.region (C := fun w' => Below wz.heap.size wz w') (X := fun w w' => Below w.heap.size w w') (by kernel_rfl) (by kernel_rfl) (by kernel_rfl) ((Below.refl _ _).drew)
  ((apply rel.walk_val; (focus (intro wq hq hf; (have d0 := (((kA).below hq (kA).lt)).cell 0; simp only [List.getElem?_cons_zero] at d0); go_wp2; refine ⟨hq, Below.refl _ _, ?_, rfl⟩; (show rel.slot _ _ = _; simp only [rel.slot_lit, List.getD_cons_succ, List.getD_cons_zero]; (first | done | exact rfl)))); (simp only [rel.put_lit, List.set_cons_succ, List.set_cons_zero])))
  (apply rel.walk_rel (fun u w' => hp.IsInts w' w'.heap.size u (A)) ⟨_, rfl⟩ (fun u w1 w2 h1 h2 => h2.on h1); (focus (intro wq hq hf; go_wp2_with (go_at_call 18; refine (ints_any (hA.on hq) hAl.out).mono ?_; rintro e w'' ⟨⟨u, rfl, hu⟩, hb⟩); refine ⟨hq.trans (hb.mono hq.size), hb, ?_, rfl⟩; (show hp.IsInts _ _ (rel.slot _ _) _; simp only [rel.slot_lit, List.getD_cons_succ, List.getD_cons_zero]; exact hu))); (intro u wu _ hu; obtain ⟨pu, cu, rfl, -⟩ := hu; (simp only [rel.put_lit, List.set_cons_succ, List.set_cons_zero])))
  (apply rel.walk_val; (focus (intro wq hq hf; go_wp2; refine ⟨hq, Below.refl _ _, ?_, rfl⟩; (show rel.slot _ _ = _; simp only [rel.slot_lit, List.getD_cons_succ, List.getD_cons_zero]; (first | done | exact rfl)))); (simp only [rel.put_lit, List.set_cons_succ, List.set_cons_zero]))
  (apply rel.walk_val; (focus (intro wq hq hf; go_wp2; refine ⟨hq, Below.refl _ _, ?_, rfl⟩; (show rel.slot _ _ = _; simp only [rel.slot_lit, List.getD_cons_succ, List.getD_cons_zero]; (first | done | exact rfl)))); (simp only [rel.put_lit, List.set_cons_succ, List.set_cons_zero]))
  (apply rel.walk_val; (focus (intro wq hq hf; go_wp2; refine ⟨hq, Below.refl _ _, ?_, rfl⟩; (show rel.slot _ _ = _; simp only [rel.slot_lit, List.getD_cons_succ, List.getD_cons_zero]; (first | done | exact rfl)))); (simp only [rel.put_lit, List.set_cons_succ, List.set_cons_zero]))
  (apply rel.walk_val; (focus (intro wq hq hf; go_wp2_with (go_at_call 17; refine (same.ints_eq rfl (hf.get 0 rfl rfl) (S1.out _ _ _ (hP.on hq))).mono ?_; rintro e w'' ⟨rfl, hb⟩); refine ⟨hq.trans (hb.mono hq.size), hb, ?_, rfl⟩; (show rel.slot _ _ = _; simp only [rel.slot_lit, List.getD_cons_succ, List.getD_cons_zero]; (first | done | exact rfl)))); (simp only [rel.put_lit, List.set_cons_succ, List.set_cons_zero]))
  (apply rel.walk_val; (focus (intro wq hq hf; go_wp2; refine ⟨hq, Below.refl _ _, ?_, rfl⟩; (show rel.slot _ _ = _; simp only [rel.slot_lit, List.getD_cons_succ, List.getD_cons_zero]; (first | done | exact rfl)))); (simp only [rel.put_lit, List.set_cons_succ, List.set_cons_zero]))
  refine rel.walk_nil ?_
  intro w5 K5 hF
  clear hF kA hA
  replace KK := st KK K5
  replace hS := hS.on K5; replace hT := hT.on K5; replace kS := kS.on K5; replace kT := kT.on K5; replace i0 := i0.on K5; replace i1 := i1.on K5; replace hP := hP.on K5; replace hQ := hQ.on K5; replace hB := hB.on K5; replace kB := kB.on K5
  clear K5 cS cT lS lT S1
  ((try clear cS); have cS := (kS).cell 0; simp only [List.getElem?_cons_zero] at cS); ((try clear cT); have cT := (kT).cell 0; simp only [List.getElem?_cons_zero] at cT); ((try clear cB); have cB := (kB).cell 0; simp only [List.getElem?_cons_zero] at cB); have lS := kS.lt; have lT := kT.lt; have lB := kB.lt
  rcases hz.out with ⟨rfl, z1, z2, z3⟩ | ⟨rfl, rfl, z1⟩ | ⟨rfl, rfl, z1, z2⟩
  · obtain ⟨b, off, rfl, hbb, hcx⟩ := cP.out _ _ _ hP z1 z2
    obtain ⟨n, rfl⟩ : ∃ n : Nat, i = n := ⟨i.toNat, by omega⟩
    rw [Int.toNat_natCast] at hcx z3
    rw [z3] at hcx
    have z4 : n < K.length := by omega
    have K6 := Below.refl w5.heap.size w5
    clear cP hz z1 z2 z3
    go_wp2_with (first
      | (go_at_call 21; (with_reducible refine (OF _ _ hP).mono ?_); rintro e wz ⟨rfl, hb⟩; replace KK := st KK hb; replace hS := hS.on hb; replace hT := hT.on hb; replace kS := kS.on hb; replace kT := kT.on hb; replace i0 := i0.on hb; replace i1 := i1.on hb; replace hP := hP.on hb; replace hQ := hQ.on hb; replace kB := kB.on hb; replace hB := hB.on hb; replace K6 := K6.trans (hb.mono K6.size); clear hb; clear cS cT cB lS lT lB; ((try clear cS); have cS := (kS).cell 0; simp only [List.getElem?_cons_zero] at cS); ((try clear cT); have cT := (kT).cell 0; simp only [List.getElem?_cons_zero] at cT); ((try clear cB); have cB := (kB).cell 0; simp only [List.getElem?_cons_zero] at cB); have lS := kS.lt; have lT := kT.lt; have lB := kB.lt)
      | (go_at_call 18; (with_reducible refine (ints_any hB hBl.out).mono ?_); rintro e wz ⟨⟨u_hI, rfl, hI⟩, hb⟩; replace KK := st KK hb; replace hS := hS.on hb; replace hT := hT.on hb; replace kS := kS.on hb; replace kT := kT.on hb; replace i0 := i0.on hb; replace i1 := i1.on hb; replace hP := hP.on hb; replace hQ := hQ.on hb; replace K6 := K6.trans (hb.mono K6.size); clear hB kB cB lB; clear hb; clear cS cT lS lT; ((try clear cS); have cS := (kS).cell 0; simp only [List.getElem?_cons_zero] at cS); ((try clear cT); have cT := (kT).cell 0; simp only [List.getElem?_cons_zero] at cT); have lS := kS.lt; have lT := kT.lt)
      | (go_at_call 17; (with_reducible refine (same.ints_eq rfl hI (S2.out _ _ _ hP)).mono ?_); rintro e wz ⟨rfl, hb⟩; replace KK := st KK hb; replace hS := hS.on hb; replace hT := hT.on hb; replace kS := kS.on hb; replace kT := kT.on hb; replace i0 := i0.on hb; replace i1 := i1.on hb; replace hP := hP.on hb; replace hQ := hQ.on hb; replace K6 := K6.trans (hb.mono K6.size); clear hI; clear hb; clear cS cT lS lT; ((try clear cS); have cS := (kS).cell 0; simp only [List.getElem?_cons_zero] at cS); ((try clear cT); have cT := (kT).cell 0; simp only [List.getElem?_cons_zero] at cT); have lS := kS.lt; have lT := kT.lt)
      | (go_at_call 29; (with_reducible refine (JN _ _ _ hS hT).mono ?_); rintro e wz ⟨⟨q_hU, rfl, hU⟩, hb⟩; replace KK := st KK hb; replace hS := hS.on hb; replace hT := hT.on hb; replace kS := kS.on hb; replace kT := kT.on hb; replace i0 := i0.on hb; replace i1 := i1.on hb; replace hP := hP.on hb; replace hQ := hQ.on hb; replace K6 := K6.trans (hb.mono K6.size); clear hb; clear cS cT lS lT; ((try clear cS); have cS := (kS).cell 0; simp only [List.getElem?_cons_zero] at cS); ((try clear cT); have cT := (kT).cell 0; simp only [List.getElem?_cons_zero] at cT); have lS := kS.lt; have lT := kT.lt)
      | (go_at_call 18; (with_reducible refine (ints_any hU hUl.out).mono ?_); rintro e wz ⟨⟨u_hI, rfl, hI⟩, hb⟩; replace KK := st KK hb; replace hS := hS.on hb; replace hT := hT.on hb; replace kS := kS.on hb; replace kT := kT.on hb; replace i0 := i0.on hb; replace i1 := i1.on hb; replace hP := hP.on hb; replace hQ := hQ.on hb; replace K6 := K6.trans (hb.mono K6.size); clear hU; clear hb; clear cS cT lS lT; ((try clear cS); have cS := (kS).cell 0; simp only [List.getElem?_cons_zero] at cS); ((try clear cT); have cT := (kT).cell 0; simp only [List.getElem?_cons_zero] at cT); have lS := kS.lt; have lT := kT.lt)
      | (go_at_call 16; (with_reducible refine (CA _ _ _ i0 i1).mono ?_); rintro e wz ⟨⟨u_hC, rfl, hC⟩, hb⟩; replace KK := st KK hb; replace hS := hS.on hb; replace hT := hT.on hb; replace kS := kS.on hb; replace kT := kT.on hb; replace i0 := i0.on hb; replace i1 := i1.on hb; replace hP := hP.on hb; replace hQ := hQ.on hb; replace K6 := K6.trans (hb.mono K6.size); replace hI := hI.on hb; clear hb; clear cS cT lS lT; ((try clear cS); have cS := (kS).cell 0; simp only [List.getElem?_cons_zero] at cS); ((try clear cT); have cT := (kT).cell 0; simp only [List.getElem?_cons_zero] at cT); have lS := kS.lt; have lT := kT.lt)
      | (go_at_call 15; (with_reducible refine (ON _ _ hC).mono ?_); rintro e wz ⟨⟨u_hJ, rfl, hJ⟩, hb⟩; replace KK := st KK hb; replace hS := hS.on hb; replace hT := hT.on hb; replace kS := kS.on hb; replace kT := kT.on hb; replace i0 := i0.on hb; replace i1 := i1.on hb; replace hP := hP.on hb; replace hQ := hQ.on hb; replace K6 := K6.trans (hb.mono K6.size); replace hI := hI.on hb; clear hC; clear hb; clear cS cT lS lT; ((try clear cS); have cS := (kS).cell 0; simp only [List.getElem?_cons_zero] at cS); ((try clear cT); have cT := (kT).cell 0; simp only [List.getElem?_cons_zero] at cT); have lS := kS.lt; have lT := kT.lt)
      | (go_at_call 17; (with_reducible refine (same.ints_eq rfl hI hJ).mono ?_); rintro e wz ⟨rfl, hb⟩; replace KK := st KK hb; replace hS := hS.on hb; replace hT := hT.on hb; replace kS := kS.on hb; replace kT := kT.on hb; replace i0 := i0.on hb; replace i1 := i1.on hb; replace hP := hP.on hb; replace hQ := hQ.on hb; replace K6 := K6.trans (hb.mono K6.size); clear hI hJ; clear hb; clear cS cT lS lT; ((try clear cS); have cS := (kS).cell 0; simp only [List.getElem?_cons_zero] at cS); ((try clear cT); have cT := (kT).cell 0; simp only [List.getElem?_cons_zero] at cT); have lS := kS.lt; have lT := kT.lt)
      | (go_at_call 21; (with_reducible refine (OF _ _ hP).mono ?_); rintro e wz ⟨rfl, hb⟩; replace KK := st KK hb; replace hS := hS.on hb; replace hT := hT.on hb; replace kS := kS.on hb; replace kT := kT.on hb; replace i0 := i0.on hb; replace i1 := i1.on hb; replace hP := hP.on hb; replace hQ := hQ.on hb; replace K6 := K6.trans (hb.mono K6.size); clear hb; clear cS cT lS lT; ((try clear cS); have cS := (kS).cell 0; simp only [List.getElem?_cons_zero] at cS); ((try clear cT); have cT := (kT).cell 0; simp only [List.getElem?_cons_zero] at cT); have lS := kS.lt; have lT := kT.lt)
      | (go_at_call 32; (with_reducible refine (RK _ _ hS).mono ?_); rintro e wz ⟨rfl, hb⟩; replace KK := st KK hb; replace hS := hS.on hb; replace hT := hT.on hb; replace kS := kS.on hb; replace kT := kT.on hb; replace i0 := i0.on hb; replace i1 := i1.on hb; replace hP := hP.on hb; replace hQ := hQ.on hb; replace K6 := K6.trans (hb.mono K6.size); clear hb; clear cS cT lS lT; ((try clear cS); have cS := (kS).cell 0; simp only [List.getElem?_cons_zero] at cS); ((try clear cT); have cT := (kT).cell 0; simp only [List.getElem?_cons_zero] at cT); have lS := kS.lt; have lT := kT.lt)
      | (go_at_call 33; (with_reducible refine (AT _ _ hS).mono ?_); rintro e wz ⟨rfl, hb⟩; replace KK := st KK hb; replace hS := hS.on hb; replace hT := hT.on hb; replace kS := kS.on hb; replace kT := kT.on hb; replace i0 := i0.on hb; replace i1 := i1.on hb; replace hP := hP.on hb; replace hQ := hQ.on hb; replace K6 := K6.trans (hb.mono K6.size); have cx := (K6.cell (p := ⟨b, off + n, none⟩) hbb).trans hcx; have lx := Nat.lt_of_lt_of_le hbb K6.size; clear hb; clear cS cT lS lT; ((try clear cS); have cS := (kS).cell 0; simp only [List.getElem?_cons_zero] at cS); ((try clear cT); have cT := (kT).cell 0; simp only [List.getElem?_cons_zero] at cT); have lS := kS.lt; have lT := kT.lt))
    go_ret
    exact ⟨rfl, KK⟩
  · clear cP hz
    go_wp2_with (first
      | (go_at_call 21; (with_reducible refine (OF _ _ hP).mono ?_); rintro e wz ⟨rfl, hb⟩; replace KK := st KK hb; replace hS := hS.on hb; replace hT := hT.on hb; replace kS := kS.on hb; replace kT := kT.on hb; replace i0 := i0.on hb; replace i1 := i1.on hb; replace hP := hP.on hb; replace hQ := hQ.on hb; replace kB := kB.on hb; replace hB := hB.on hb; clear hb; clear cS cT cB lS lT lB; ((try clear cS); have cS := (kS).cell 0; simp only [List.getElem?_cons_zero] at cS); ((try clear cT); have cT := (kT).cell 0; simp only [List.getElem?_cons_zero] at cT); ((try clear cB); have cB := (kB).cell 0; simp only [List.getElem?_cons_zero] at cB); have lS := kS.lt; have lT := kT.lt; have lB := kB.lt)
      | (go_at_call 18; (with_reducible refine (ints_any hB hBl.out).mono ?_); rintro e wz ⟨⟨u_hI, rfl, hI⟩, hb⟩; replace KK := st KK hb; replace hS := hS.on hb; replace hT := hT.on hb; replace kS := kS.on hb; replace kT := kT.on hb; replace i0 := i0.on hb; replace i1 := i1.on hb; replace hP := hP.on hb; replace hQ := hQ.on hb; clear hB kB cB lB; clear hb; clear cS cT lS lT; ((try clear cS); have cS := (kS).cell 0; simp only [List.getElem?_cons_zero] at cS); ((try clear cT); have cT := (kT).cell 0; simp only [List.getElem?_cons_zero] at cT); have lS := kS.lt; have lT := kT.lt)
      | (go_at_call 17; (with_reducible refine (same.ints_eq rfl hI (S2.out _ _ _ hP)).mono ?_); rintro e wz ⟨rfl, hb⟩; replace KK := st KK hb; replace hS := hS.on hb; replace hT := hT.on hb; replace kS := kS.on hb; replace kT := kT.on hb; replace i0 := i0.on hb; replace i1 := i1.on hb; replace hP := hP.on hb; replace hQ := hQ.on hb; clear hI; clear hb; clear cS cT lS lT; ((try clear cS); have cS := (kS).cell 0; simp only [List.getElem?_cons_zero] at cS); ((try clear cT); have cT := (kT).cell 0; simp only [List.getElem?_cons_zero] at cT); have lS := kS.lt; have lT := kT.lt)
      | (go_at_call 29; (with_reducible refine (JN _ _ _ hS hT).mono ?_); rintro e wz ⟨⟨q_hU, rfl, hU⟩, hb⟩; replace KK := st KK hb; replace hS := hS.on hb; replace hT := hT.on hb; replace kS := kS.on hb; replace kT := kT.on hb; replace i0 := i0.on hb; replace i1 := i1.on hb; replace hP := hP.on hb; replace hQ := hQ.on hb; clear hb; clear cS cT lS lT; ((try clear cS); have cS := (kS).cell 0; simp only [List.getElem?_cons_zero] at cS); ((try clear cT); have cT := (kT).cell 0; simp only [List.getElem?_cons_zero] at cT); have lS := kS.lt; have lT := kT.lt)
      | (go_at_call 18; (with_reducible refine (ints_any hU hUl.out).mono ?_); rintro e wz ⟨⟨u_hI, rfl, hI⟩, hb⟩; replace KK := st KK hb; replace hS := hS.on hb; replace hT := hT.on hb; replace kS := kS.on hb; replace kT := kT.on hb; replace i0 := i0.on hb; replace i1 := i1.on hb; replace hP := hP.on hb; replace hQ := hQ.on hb; clear hU; clear hb; clear cS cT lS lT; ((try clear cS); have cS := (kS).cell 0; simp only [List.getElem?_cons_zero] at cS); ((try clear cT); have cT := (kT).cell 0; simp only [List.getElem?_cons_zero] at cT); have lS := kS.lt; have lT := kT.lt)
      | (go_at_call 16; (with_reducible refine (CA _ _ _ i0 i1).mono ?_); rintro e wz ⟨⟨u_hC, rfl, hC⟩, hb⟩; replace KK := st KK hb; replace hS := hS.on hb; replace hT := hT.on hb; replace kS := kS.on hb; replace kT := kT.on hb; replace i0 := i0.on hb; replace i1 := i1.on hb; replace hP := hP.on hb; replace hQ := hQ.on hb; replace hI := hI.on hb; clear hb; clear cS cT lS lT; ((try clear cS); have cS := (kS).cell 0; simp only [List.getElem?_cons_zero] at cS); ((try clear cT); have cT := (kT).cell 0; simp only [List.getElem?_cons_zero] at cT); have lS := kS.lt; have lT := kT.lt)
      | (go_at_call 15; (with_reducible refine (ON _ _ hC).mono ?_); rintro e wz ⟨⟨u_hJ, rfl, hJ⟩, hb⟩; replace KK := st KK hb; replace hS := hS.on hb; replace hT := hT.on hb; replace kS := kS.on hb; replace kT := kT.on hb; replace i0 := i0.on hb; replace i1 := i1.on hb; replace hP := hP.on hb; replace hQ := hQ.on hb; replace hI := hI.on hb; clear hC; clear hb; clear cS cT lS lT; ((try clear cS); have cS := (kS).cell 0; simp only [List.getElem?_cons_zero] at cS); ((try clear cT); have cT := (kT).cell 0; simp only [List.getElem?_cons_zero] at cT); have lS := kS.lt; have lT := kT.lt)
      | (go_at_call 17; (with_reducible refine (same.ints_eq rfl hI hJ).mono ?_); rintro e wz ⟨rfl, hb⟩; replace KK := st KK hb; replace hS := hS.on hb; replace hT := hT.on hb; replace kS := kS.on hb; replace kT := kT.on hb; replace i0 := i0.on hb; replace i1 := i1.on hb; replace hP := hP.on hb; replace hQ := hQ.on hb; clear hI hJ; clear hb; clear cS cT lS lT; ((try clear cS); have cS := (kS).cell 0; simp only [List.getElem?_cons_zero] at cS); ((try clear cT); have cT := (kT).cell 0; simp only [List.getElem?_cons_zero] at cT); have lS := kS.lt; have lT := kT.lt)
      | (go_at_call 21; (with_reducible refine (OF _ _ hP).mono ?_); rintro e wz ⟨rfl, hb⟩; replace KK := st KK hb; replace hS := hS.on hb; replace hT := hT.on hb; replace kS := kS.on hb; replace kT := kT.on hb; replace i0 := i0.on hb; replace i1 := i1.on hb; replace hP := hP.on hb; replace hQ := hQ.on hb; clear hb; clear cS cT lS lT; ((try clear cS); have cS := (kS).cell 0; simp only [List.getElem?_cons_zero] at cS); ((try clear cT); have cT := (kT).cell 0; simp only [List.getElem?_cons_zero] at cT); have lS := kS.lt; have lT := kT.lt)
      | (go_at_call 32; (with_reducible refine (RK _ _ hS).mono ?_); rintro e wz ⟨rfl, hb⟩; replace KK := st KK hb; replace hS := hS.on hb; replace hT := hT.on hb; replace kS := kS.on hb; replace kT := kT.on hb; replace i0 := i0.on hb; replace i1 := i1.on hb; replace hP := hP.on hb; replace hQ := hQ.on hb; clear hb; clear cS cT lS lT; ((try clear cS); have cS := (kS).cell 0; simp only [List.getElem?_cons_zero] at cS); ((try clear cT); have cT := (kT).cell 0; simp only [List.getElem?_cons_zero] at cT); have lS := kS.lt; have lT := kT.lt)
      | (go_at_call 33; (with_reducible refine (AT _ _ hS).mono ?_); rintro e wz ⟨rfl, hb⟩; replace KK := st KK hb; replace hS := hS.on hb; replace hT := hT.on hb; replace kS := kS.on hb; replace kT := kT.on hb; replace i0 := i0.on hb; replace i1 := i1.on hb; replace hP := hP.on hb; replace hQ := hQ.on hb; clear hb; clear cS cT lS lT; ((try clear cS); have cS := (kS).cell 0; simp only [List.getElem?_cons_zero] at cS); ((try clear cT); have cT := (kT).cell 0; simp only [List.getElem?_cons_zero] at cT); have lS := kS.lt; have lT := kT.lt))
    go_ret
    exact ⟨rfl, KK⟩
  · clear cP hz
    go_wp2_with (first
      | (go_at_call 21; (with_reducible refine (OF _ _ hP).mono ?_); rintro e wz ⟨rfl, hb⟩; replace KK := st KK hb; replace hS := hS.on hb; replace hT := hT.on hb; replace kS := kS.on hb; replace kT := kT.on hb; replace i0 := i0.on hb; replace i1 := i1.on hb; replace hP := hP.on hb; replace hQ := hQ.on hb; replace kB := kB.on hb; replace hB := hB.on hb; clear hb; clear cS cT cB lS lT lB; ((try clear cS); have cS := (kS).cell 0; simp only [List.getElem?_cons_zero] at cS); ((try clear cT); have cT := (kT).cell 0; simp only [List.getElem?_cons_zero] at cT); ((try clear cB); have cB := (kB).cell 0; simp only [List.getElem?_cons_zero] at cB); have lS := kS.lt; have lT := kT.lt; have lB := kB.lt)
      | (go_at_call 18; (with_reducible refine (ints_any hB hBl.out).mono ?_); rintro e wz ⟨⟨u_hI, rfl, hI⟩, hb⟩; replace KK := st KK hb; replace hS := hS.on hb; replace hT := hT.on hb; replace kS := kS.on hb; replace kT := kT.on hb; replace i0 := i0.on hb; replace i1 := i1.on hb; replace hP := hP.on hb; replace hQ := hQ.on hb; clear hB kB cB lB; clear hb; clear cS cT lS lT; ((try clear cS); have cS := (kS).cell 0; simp only [List.getElem?_cons_zero] at cS); ((try clear cT); have cT := (kT).cell 0; simp only [List.getElem?_cons_zero] at cT); have lS := kS.lt; have lT := kT.lt)
      | (go_at_call 17; (with_reducible refine (same.ints_eq rfl hI (S2.out _ _ _ hP)).mono ?_); rintro e wz ⟨rfl, hb⟩; replace KK := st KK hb; replace hS := hS.on hb; replace hT := hT.on hb; replace kS := kS.on hb; replace kT := kT.on hb; replace i0 := i0.on hb; replace i1 := i1.on hb; replace hP := hP.on hb; replace hQ := hQ.on hb; clear hI; clear hb; clear cS cT lS lT; ((try clear cS); have cS := (kS).cell 0; simp only [List.getElem?_cons_zero] at cS); ((try clear cT); have cT := (kT).cell 0; simp only [List.getElem?_cons_zero] at cT); have lS := kS.lt; have lT := kT.lt)
      | (go_at_call 29; (with_reducible refine (JN _ _ _ hS hT).mono ?_); rintro e wz ⟨⟨q_hU, rfl, hU⟩, hb⟩; replace KK := st KK hb; replace hS := hS.on hb; replace hT := hT.on hb; replace kS := kS.on hb; replace kT := kT.on hb; replace i0 := i0.on hb; replace i1 := i1.on hb; replace hP := hP.on hb; replace hQ := hQ.on hb; clear hb; clear cS cT lS lT; ((try clear cS); have cS := (kS).cell 0; simp only [List.getElem?_cons_zero] at cS); ((try clear cT); have cT := (kT).cell 0; simp only [List.getElem?_cons_zero] at cT); have lS := kS.lt; have lT := kT.lt)
      | (go_at_call 18; (with_reducible refine (ints_any hU hUl.out).mono ?_); rintro e wz ⟨⟨u_hI, rfl, hI⟩, hb⟩; replace KK := st KK hb; replace hS := hS.on hb; replace hT := hT.on hb; replace kS := kS.on hb; replace kT := kT.on hb; replace i0 := i0.on hb; replace i1 := i1.on hb; replace hP := hP.on hb; replace hQ := hQ.on hb; clear hU; clear hb; clear cS cT lS lT; ((try clear cS); have cS := (kS).cell 0; simp only [List.getElem?_cons_zero] at cS); ((try clear cT); have cT := (kT).cell 0; simp only [List.getElem?_cons_zero] at cT); have lS := kS.lt; have lT := kT.lt)
      | (go_at_call 16; (with_reducible refine (CA _ _ _ i0 i1).mono ?_); rintro e wz ⟨⟨u_hC, rfl, hC⟩, hb⟩; replace KK := st KK hb; replace hS := hS.on hb; replace hT := hT.on hb; replace kS := kS.on hb; replace kT := kT.on hb; replace i0 := i0.on hb; replace i1 := i1.on hb; replace hP := hP.on hb; replace hQ := hQ.on hb; replace hI := hI.on hb; clear hb; clear cS cT lS lT; ((try clear cS); have cS := (kS).cell 0; simp only [List.getElem?_cons_zero] at cS); ((try clear cT); have cT := (kT).cell 0; simp only [List.getElem?_cons_zero] at cT); have lS := kS.lt; have lT := kT.lt)
      | (go_at_call 15; (with_reducible refine (ON _ _ hC).mono ?_); rintro e wz ⟨⟨u_hJ, rfl, hJ⟩, hb⟩; replace KK := st KK hb; replace hS := hS.on hb; replace hT := hT.on hb; replace kS := kS.on hb; replace kT := kT.on hb; replace i0 := i0.on hb; replace i1 := i1.on hb; replace hP := hP.on hb; replace hQ := hQ.on hb; replace hI := hI.on hb; clear hC; clear hb; clear cS cT lS lT; ((try clear cS); have cS := (kS).cell 0; simp only [List.getElem?_cons_zero] at cS); ((try clear cT); have cT := (kT).cell 0; simp only [List.getElem?_cons_zero] at cT); have lS := kS.lt; have lT := kT.lt)
      | (go_at_call 17; (with_reducible refine (same.ints_eq rfl hI hJ).mono ?_); rintro e wz ⟨rfl, hb⟩; replace KK := st KK hb; replace hS := hS.on hb; replace hT := hT.on hb; replace kS := kS.on hb; replace kT := kT.on hb; replace i0 := i0.on hb; replace i1 := i1.on hb; replace hP := hP.on hb; replace hQ := hQ.on hb; clear hI hJ; clear hb; clear cS cT lS lT; ((try clear cS); have cS := (kS).cell 0; simp only [List.getElem?_cons_zero] at cS); ((try clear cT); have cT := (kT).cell 0; simp only [List.getElem?_cons_zero] at cT); have lS := kS.lt; have lT := kT.lt)
      | (go_at_call 21; (with_reducible refine (OF _ _ hP).mono ?_); rintro e wz ⟨rfl, hb⟩; replace KK := st KK hb; replace hS := hS.on hb; replace hT := hT.on hb; replace kS := kS.on hb; replace kT := kT.on hb; replace i0 := i0.on hb; replace i1 := i1.on hb; replace hP := hP.on hb; replace hQ := hQ.on hb; clear hb; clear cS cT lS lT; ((try clear cS); have cS := (kS).cell 0; simp only [List.getElem?_cons_zero] at cS); ((try clear cT); have cT := (kT).cell 0; simp only [List.getElem?_cons_zero] at cT); have lS := kS.lt; have lT := kT.lt)
      | (go_at_call 32; (with_reducible refine (RK _ _ hS).mono ?_); rintro e wz ⟨rfl, hb⟩; replace KK := st KK hb; replace hS := hS.on hb; replace hT := hT.on hb; replace kS := kS.on hb; replace kT := kT.on hb; replace i0 := i0.on hb; replace i1 := i1.on hb; replace hP := hP.on hb; replace hQ := hQ.on hb; clear hb; clear cS cT lS lT; ((try clear cS); have cS := (kS).cell 0; simp only [List.getElem?_cons_zero] at cS); ((try clear cT); have cT := (kT).cell 0; simp only [List.getElem?_cons_zero] at cT); have lS := kS.lt; have lT := kT.lt)
      | (go_at_call 33; (with_reducible refine (AT _ _ hS).mono ?_); rintro e wz ⟨rfl, hb⟩; replace KK := st KK hb; replace hS := hS.on hb; replace hT := hT.on hb; replace kS := kS.on hb; replace kT := kT.on hb; replace i0 := i0.on hb; replace i1 := i1.on hb; replace hP := hP.on hb; replace hQ := hQ.on hb; clear hb; clear cS cT lS lT; ((try clear cS); have cS := (kS).cell 0; simp only [List.getElem?_cons_zero] at cS); ((try clear cT); have cT := (kT).cell 0; simp only [List.getElem?_cons_zero] at cT); have lS := kS.lt; have lT := kT.lt))
    go_ret
    refine ⟨?_, KK⟩
    have z3 : decide (i < (K.length : Int)) = false := decide_eq_false (by omega)
    simp [z3]

set_option maxRecDepth 100000 in
set_option maxHeartbeats 32000000 in
attribute [-go_sem] sliced in
theorem core_yes (v0 : Value) (l0 : List Int) (v1 : Value) (l1 : List Int) (x i y : Int) (is : Bool) (K M U C E F A B : List Int) (N o : Nat) (w : World) (i0 : hp.IsInts w w.heap.size v0 l0) (i1 : hp.IsInts w w.heap.size v1 l1) (bd : l0.length + l1.length ≤ 1048576)
    (hK : uniq l0 = K) (hM : uniq l1 = M) (hU : uni K M = U) (hC : l0 ++ l1 = C) (hE : cho true K M = E) (hF : cho false K M = F) (hA : lo x K = A) (hB : hi x K = B) (hN : same.cnt K x = N) (ho : same.oft K x = o) (hA2 : K.take N = A) (hm : x ∈ K) (hB2 : K.drop (N + 1) = B) (hN1 : N + 1 ≤ K.length) (hi2 : i ≤ 9223372036854775807) (h1 : at_ K i = (y, is))
    (hz : (is = true ∧ 0 ≤ i ∧ i < K.length ∧ K.getD i.toNat 0 = y) ∨ (is = false ∧ y = 0 ∧ i < 0) ∨ (is = false ∧ y = 0 ∧ 0 ≤ i ∧ ¬ i < K.length)) :
    Calls Try.prog 6 #[v0, v1, .int .i64 x, .int .i64 i] w fun e w' => e = .returned (.bool true) ∧ Below w.heap.size w w' := by
  have hul := uniq_le l0
  have hul1 := uniq_le l1
  have aK : Asc K := by rw [← hK]; exact uniq_asc l0
  have hUU : uniq C = U := by rw [← hC, ← uni_uniq, hK, hM, hU]
  rw [hK] at hul
  rw [hM] at hul1
  have hlU := uni_le K M
  have hlE := cho_le true K M
  have hlF := cho_le false K M
  have hlA := lo_hi_le x K
  have hlC : C.length = l0.length + l1.length := by rw [← hC, List.length_append]
  rw [hU] at hlU
  rw [hE] at hlE
  rw [hF] at hlF
  rw [hA, hB] at hlA
  have hNL := wbt.cnt_le K x
  rw [hN] at hNL
  have hUl := Lib.hid (show U.length ≤ 17592186044416 by omega)
  have hEl := Lib.hid (show E.length ≤ 17592186044416 by omega)
  have hFl := Lib.hid (show F.length ≤ 17592186044416 by omega)
  have hAl := Lib.hid (show A.length ≤ 17592186044416 by omega)
  have hBl := Lib.hid (show B.length ≤ 17592186044416 by omega)
  have H1 := fun W (h : hp.IsInts W W.heap.size v0 l0) => of_as hK h (by omega)
  have H2 := fun W (h : hp.IsInts W W.heap.size v1 l1) => of_as hM h (by omega)
  have O1 : ∀ W (h : hp.IsInts W W.heap.size v0 l0), Calls Try.prog 15 #[v0] W fun e w' => (∃ u, e = .returned u ∧ hp.IsInts w' w'.heap.size u K) ∧ Below W.heap.size W w' := fun W h => by
    have := same.once_any h (by omega)
    rw [hK] at this
    exact this
  have O2 : ∀ W (h : hp.IsInts W W.heap.size v1 l1), Calls Try.prog 15 #[v1] W fun e w' => (∃ u, e = .returned u ∧ hp.IsInts w' w'.heap.size u M) ∧ Below W.heap.size W w' := fun W h => by
    have := same.once_any h (by omega)
    rw [hM] at this
    exact this
  have ON : ∀ W v (h : hp.IsInts W W.heap.size v C), Calls Try.prog 15 #[v] W fun e w' => (∃ u, e = .returned u ∧ hp.IsInts w' w'.heap.size u U) ∧ Below W.heap.size W w' := fun W v h => by
    have := same.once_any h (by omega)
    rw [hUU] at this
    exact this
  have CA := fun W v u (h : hp.IsInts W W.heap.size v l0) (h' : hp.IsInts W W.heap.size u l1) => same.cat_eq hC h h' (by omega)
  have UN : ∀ W v u (h : IsSet W W.heap.size v K) (h' : IsSet W W.heap.size u M), Calls Try.prog 26 #[v, u] W fun e w' => (∃ q, e = .returned (rv q) ∧ IsSet w' w'.heap.size (rv q) U) ∧ Below W.heap.size W w' := fun W v u h h' => by
    have := set_union h h' (by omega)
    rw [hU] at this
    exact this
  have JN : ∀ W v u (h : IsSet W W.heap.size v K) (h' : IsSet W W.heap.size u M), Calls Try.prog 29 #[v, u] W fun e w' => (∃ q, e = .returned (rv q) ∧ IsSet w' w'.heap.size (rv q) U) ∧ Below W.heap.size W w' := fun W v u h h' => by
    have := set_join h h' (by omega)
    rw [hU] at this
    exact this
  have IN : ∀ W v u (h : IsSet W W.heap.size v K) (h' : IsSet W W.heap.size u M), Calls Try.prog 27 #[v, u] W fun e w' => (∃ q, e = .returned (rv q) ∧ IsSet w' w'.heap.size (rv q) E) ∧ Below W.heap.size W w' := fun W v u h h' => by
    have := set_inter h h' (by omega)
    rw [hE] at this
    exact this
  have DF : ∀ W v u (h : IsSet W W.heap.size v K) (h' : IsSet W W.heap.size u M), Calls Try.prog 28 #[v, u] W fun e w' => (∃ q, e = .returned (rv q) ∧ IsSet w' w'.heap.size (rv q) F) ∧ Below W.heap.size W w' := fun W v u h h' => by
    have := set_diff h h' (by omega)
    rw [hF] at this
    exact this
  have SI := fun W v u (h : hp.IsInts W W.heap.size v K) (h' : hp.IsInts W W.heap.size u M) => sift_as hE h h' (by omega) (by omega)
  have SD := fun W v u (h : hp.IsInts W W.heap.size v K) (h' : hp.IsInts W W.heap.size u M) => sift_as hF h h' (by omega) (by omega)
  have SP : ∀ W v (hS : IsSet W W.heap.size v K), Calls Try.prog 25 #[v, .int .i64 x] W fun e w' => (∃ q r, e = .returned (.tuple #[rv q, .bool true, rv r]) ∧ IsSet w' w'.heap.size (rv q) A ∧ IsSet w' w'.heap.size (rv r) B) ∧ Below W.heap.size W w' := fun W v hS => by
    have := set_split (x := x) hS (by omega)
    rw [hA, hB, show decide (x ∈ K) = true by simpa using hm] at this
    exact this
  have BL := fun W v (h : hp.IsInts W W.heap.size v K) => below_as hN h
  have OF := fun W v (h : hp.IsInts W W.heap.size v K) => oft_as ho h
  have RK := fun W v (h : IsSet W W.heap.size v K) => rank_as hN h (by omega)
  have AT := fun W v (h : IsSet W W.heap.size v K) => at_any h (by omega) hi2 h1
  have S1 : Hid (∀ W a c, hp.IsInts W W.heap.size (.slice a K.length c) K → hp.IsInts W W.heap.size (Go.sliced a 0 N c 1) A) := Lib.hid fun W a c h => by
    have := h.sliced (i := 0) (j := N) (Nat.zero_le _) (by omega)
    rw [List.drop_zero, hA2] at this
    exact this
  have S2 : Hid (∀ W a c, hp.IsInts W W.heap.size (.slice a K.length c) K → hp.IsInts W W.heap.size (Go.sliced a (N + 1) K.length c 1) B) := Lib.hid fun W a c h => by
    have := h.from (i := (N + 1)) (by omega)
    rw [hB2] at this
    exact this
  have hoo : 0 < o := by
    rw [← ho]
    rcases Nat.eq_zero_or_pos (same.oft K x) with h0 | h0
    · exact absurd hm (same.oft_zero.1 h0)
    · exact h0
  have hNb : N ≤ 1048576 ∧ K.length ≤ 1048576 ∧ o ≤ 1048576 := by
    have := same.oft_le K x
    omega
  obtain ⟨hNb, hLb, hob⟩ := hNb
  have cP : Hid (∀ W a c, hp.IsInts W W.heap.size (.slice a K.length c) K → 0 ≤ i → i < K.length → ∃ b off, a = some ⟨b, off, none⟩ ∧ b < W.heap.size ∧ W.cell? ⟨b, off + i.toNat, none⟩ = some (.int .i64 (K.getD i.toNat 0))) := Lib.hid fun W a c h h0 h1 => by
    obtain ⟨b, off, e, hb, hc⟩ := h.at (by omega)
    exact ⟨b, off, e, hb, hc _ (by omega)⟩
  have i0' := i0
  have i1' := i1
  obtain ⟨a0, c0, rfl, -⟩ := i0'
  obtain ⟨a1, c1, rfl, -⟩ := i1'
  have KK := Below.refl w.heap.size w
  clear bd hul hul1 aK hUU hlU hlE hlF hlA hlC hK hM hU hC hE hF hA hB hN ho hA2 hB2 hm h1 hi2
  replace hz := Lib.hid hz
  go_enter Try.func6, Try.ntmps6
  go_wp2_with (first
    | (go_at_call 11; (with_reducible refine (wbted_any _).mono ?_); rintro e wa ⟨rfl, hb⟩; replace KK := st KK hb; replace i0 := i0.on hb; replace i1 := i1.on hb; clear hb)
    | (go_at_call 24; (with_reducible refine (H1 _ i0).mono ?_); clear H1; rintro e wb ⟨⟨q1, rfl, hS⟩, hb⟩; have kS := hp.Blk.new wb [.pointer q1] tyH; replace KK := st (st KK hb) ((Below.refl _ _).alloc (Nat.le_refl _) (.cells #[.pointer q1] tyH)); replace hS := hS.on ((Below.refl _ _).alloc (Nat.le_refl _) (.cells #[.pointer q1] tyH)); replace i0 := (i0.on hb).on ((Below.refl _ _).alloc (Nat.le_refl _) (.cells #[.pointer q1] tyH)); replace i1 := (i1.on hb).on ((Below.refl _ _).alloc (Nat.le_refl _) (.cells #[.pointer q1] tyH)); clear hb)
    | (go_at_call 24; (with_reducible refine (H2 _ i1).mono ?_); clear H2; rintro e wc ⟨⟨q2, rfl, hT⟩, hb⟩; have kT := hp.Blk.new wc [.pointer q2] tyH; replace KK := st (st KK hb) ((Below.refl _ _).alloc (Nat.le_refl _) (.cells #[.pointer q2] tyH)); replace hT := hT.on ((Below.refl _ _).alloc (Nat.le_refl _) (.cells #[.pointer q2] tyH)); replace hS := (hS.on hb).on ((Below.refl _ _).alloc (Nat.le_refl _) (.cells #[.pointer q2] tyH)); replace kS := (kS.on hb).on ((Below.refl _ _).alloc (Nat.le_refl _) (.cells #[.pointer q2] tyH)); replace i0 := (i0.on hb).on ((Below.refl _ _).alloc (Nat.le_refl _) (.cells #[.pointer q2] tyH)); replace i1 := (i1.on hb).on ((Below.refl _ _).alloc (Nat.le_refl _) (.cells #[.pointer q2] tyH)); clear hb; ((try clear cS); have cS := (kS).cell 0; simp only [List.getElem?_cons_zero] at cS); ((try clear cT); have cT := (kT).cell 0; simp only [List.getElem?_cons_zero] at cT); have lS := kS.lt; have lT := kT.lt)
    | (go_at_call 15; (with_reducible refine (O1 _ i0).mono ?_); clear O1; rintro e wd ⟨⟨u_p, rfl, hP⟩, hb⟩; replace KK := st KK hb; replace hS := hS.on hb; replace hT := hT.on hb; replace kS := kS.on hb; replace kT := kT.on hb; replace i0 := i0.on hb; replace i1 := i1.on hb; clear hb; clear cS cT lS lT; ((try clear cS); have cS := (kS).cell 0; simp only [List.getElem?_cons_zero] at cS); ((try clear cT); have cT := (kT).cell 0; simp only [List.getElem?_cons_zero] at cT); have lS := kS.lt; have lT := kT.lt; have hP2 := hP; obtain ⟨ap, cp, rfl, -⟩ := hP2)
    | (go_at_call 15; (with_reducible refine (O2 _ i1).mono ?_); clear O2; rintro e we ⟨⟨u_q, rfl, hQ⟩, hb⟩; replace KK := st KK hb; replace hS := hS.on hb; replace hT := hT.on hb; replace kS := kS.on hb; replace kT := kT.on hb; replace i0 := i0.on hb; replace i1 := i1.on hb; replace hP := hP.on hb; clear hb; clear cS cT lS lT; ((try clear cS); have cS := (kS).cell 0; simp only [List.getElem?_cons_zero] at cS); ((try clear cT); have cT := (kT).cell 0; simp only [List.getElem?_cons_zero] at cT); have lS := kS.lt; have lT := kT.lt; have hQ2 := hQ; obtain ⟨aq, cq, rfl, -⟩ := hQ2)
    | (go_at_call 26; (with_reducible refine (UN _ _ _ hS hT).mono ?_); rintro e wz ⟨⟨q_hU, rfl, hU⟩, hb⟩; replace KK := st KK hb; replace hS := hS.on hb; replace hT := hT.on hb; replace kS := kS.on hb; replace kT := kT.on hb; replace i0 := i0.on hb; replace i1 := i1.on hb; replace hP := hP.on hb; replace hQ := hQ.on hb; clear hb; clear cS cT lS lT; ((try clear cS); have cS := (kS).cell 0; simp only [List.getElem?_cons_zero] at cS); ((try clear cT); have cT := (kT).cell 0; simp only [List.getElem?_cons_zero] at cT); have lS := kS.lt; have lT := kT.lt)
    | (go_at_call 18; (with_reducible refine (ints_any hU hUl.out).mono ?_); rintro e wz ⟨⟨u_hI, rfl, hI⟩, hb⟩; replace KK := st KK hb; replace hS := hS.on hb; replace hT := hT.on hb; replace kS := kS.on hb; replace kT := kT.on hb; replace i0 := i0.on hb; replace i1 := i1.on hb; replace hP := hP.on hb; replace hQ := hQ.on hb; clear hU; clear hb; clear cS cT lS lT; ((try clear cS); have cS := (kS).cell 0; simp only [List.getElem?_cons_zero] at cS); ((try clear cT); have cT := (kT).cell 0; simp only [List.getElem?_cons_zero] at cT); have lS := kS.lt; have lT := kT.lt)
    | (go_at_call 16; (with_reducible refine (CA _ _ _ i0 i1).mono ?_); rintro e wz ⟨⟨u_hC, rfl, hC⟩, hb⟩; replace KK := st KK hb; replace hS := hS.on hb; replace hT := hT.on hb; replace kS := kS.on hb; replace kT := kT.on hb; replace i0 := i0.on hb; replace i1 := i1.on hb; replace hP := hP.on hb; replace hQ := hQ.on hb; replace hI := hI.on hb; clear hb; clear cS cT lS lT; ((try clear cS); have cS := (kS).cell 0; simp only [List.getElem?_cons_zero] at cS); ((try clear cT); have cT := (kT).cell 0; simp only [List.getElem?_cons_zero] at cT); have lS := kS.lt; have lT := kT.lt)
    | (go_at_call 15; (with_reducible refine (ON _ _ hC).mono ?_); rintro e wz ⟨⟨u_hJ, rfl, hJ⟩, hb⟩; replace KK := st KK hb; replace hS := hS.on hb; replace hT := hT.on hb; replace kS := kS.on hb; replace kT := kT.on hb; replace i0 := i0.on hb; replace i1 := i1.on hb; replace hP := hP.on hb; replace hQ := hQ.on hb; replace hI := hI.on hb; clear hC; clear hb; clear cS cT lS lT; ((try clear cS); have cS := (kS).cell 0; simp only [List.getElem?_cons_zero] at cS); ((try clear cT); have cT := (kT).cell 0; simp only [List.getElem?_cons_zero] at cT); have lS := kS.lt; have lT := kT.lt)
    | (go_at_call 17; (with_reducible refine (same.ints_eq rfl hI hJ).mono ?_); rintro e wz ⟨rfl, hb⟩; replace KK := st KK hb; replace hS := hS.on hb; replace hT := hT.on hb; replace kS := kS.on hb; replace kT := kT.on hb; replace i0 := i0.on hb; replace i1 := i1.on hb; replace hP := hP.on hb; replace hQ := hQ.on hb; clear hI hJ; clear hb; clear cS cT lS lT; ((try clear cS); have cS := (kS).cell 0; simp only [List.getElem?_cons_zero] at cS); ((try clear cT); have cT := (kT).cell 0; simp only [List.getElem?_cons_zero] at cT); have lS := kS.lt; have lT := kT.lt)
    | (go_at_call 27; (with_reducible refine (IN _ _ _ hS hT).mono ?_); rintro e wz ⟨⟨q_hE, rfl, hE⟩, hb⟩; replace KK := st KK hb; replace hS := hS.on hb; replace hT := hT.on hb; replace kS := kS.on hb; replace kT := kT.on hb; replace i0 := i0.on hb; replace i1 := i1.on hb; replace hP := hP.on hb; replace hQ := hQ.on hb; clear hb; clear cS cT lS lT; ((try clear cS); have cS := (kS).cell 0; simp only [List.getElem?_cons_zero] at cS); ((try clear cT); have cT := (kT).cell 0; simp only [List.getElem?_cons_zero] at cT); have lS := kS.lt; have lT := kT.lt)
    | (go_at_call 18; (with_reducible refine (ints_any hE hEl.out).mono ?_); rintro e wz ⟨⟨u_hI, rfl, hI⟩, hb⟩; replace KK := st KK hb; replace hS := hS.on hb; replace hT := hT.on hb; replace kS := kS.on hb; replace kT := kT.on hb; replace i0 := i0.on hb; replace i1 := i1.on hb; replace hP := hP.on hb; replace hQ := hQ.on hb; clear hE; clear hb; clear cS cT lS lT; ((try clear cS); have cS := (kS).cell 0; simp only [List.getElem?_cons_zero] at cS); ((try clear cT); have cT := (kT).cell 0; simp only [List.getElem?_cons_zero] at cT); have lS := kS.lt; have lT := kT.lt)
    | (go_at_call 13; (with_reducible refine (SI _ _ _ hP hQ).mono ?_); rintro e wz ⟨⟨u_hJ, rfl, hJ⟩, hb⟩; replace KK := st KK hb; replace hS := hS.on hb; replace hT := hT.on hb; replace kS := kS.on hb; replace kT := kT.on hb; replace i0 := i0.on hb; replace i1 := i1.on hb; replace hP := hP.on hb; replace hQ := hQ.on hb; replace hI := hI.on hb; clear hb; clear cS cT lS lT; ((try clear cS); have cS := (kS).cell 0; simp only [List.getElem?_cons_zero] at cS); ((try clear cT); have cT := (kT).cell 0; simp only [List.getElem?_cons_zero] at cT); have lS := kS.lt; have lT := kT.lt)
    | (go_at_call 28; (with_reducible refine (DF _ _ _ hS hT).mono ?_); rintro e wz ⟨⟨q_hF, rfl, hF⟩, hb⟩; replace KK := st KK hb; replace hS := hS.on hb; replace hT := hT.on hb; replace kS := kS.on hb; replace kT := kT.on hb; replace i0 := i0.on hb; replace i1 := i1.on hb; replace hP := hP.on hb; replace hQ := hQ.on hb; clear hb; clear cS cT lS lT; ((try clear cS); have cS := (kS).cell 0; simp only [List.getElem?_cons_zero] at cS); ((try clear cT); have cT := (kT).cell 0; simp only [List.getElem?_cons_zero] at cT); have lS := kS.lt; have lT := kT.lt)
    | (go_at_call 18; (with_reducible refine (ints_any hF hFl.out).mono ?_); rintro e wz ⟨⟨u_hI, rfl, hI⟩, hb⟩; replace KK := st KK hb; replace hS := hS.on hb; replace hT := hT.on hb; replace kS := kS.on hb; replace kT := kT.on hb; replace i0 := i0.on hb; replace i1 := i1.on hb; replace hP := hP.on hb; replace hQ := hQ.on hb; clear hF; clear hb; clear cS cT lS lT; ((try clear cS); have cS := (kS).cell 0; simp only [List.getElem?_cons_zero] at cS); ((try clear cT); have cT := (kT).cell 0; simp only [List.getElem?_cons_zero] at cT); have lS := kS.lt; have lT := kT.lt)
    | (go_at_call 13; (with_reducible refine (SD _ _ _ hP hQ).mono ?_); rintro e wz ⟨⟨u_hJ, rfl, hJ⟩, hb⟩; replace KK := st KK hb; replace hS := hS.on hb; replace hT := hT.on hb; replace kS := kS.on hb; replace kT := kT.on hb; replace i0 := i0.on hb; replace i1 := i1.on hb; replace hP := hP.on hb; replace hQ := hQ.on hb; replace hI := hI.on hb; clear hb; clear cS cT lS lT; ((try clear cS); have cS := (kS).cell 0; simp only [List.getElem?_cons_zero] at cS); ((try clear cT); have cT := (kT).cell 0; simp only [List.getElem?_cons_zero] at cT); have lS := kS.lt; have lT := kT.lt)
    | (go_at_call 25; (with_reducible refine (SP _ _ hS).mono ?_); clear SP; rintro e wd ⟨⟨q3, q4, rfl, hA, hB⟩, hb⟩; have kA := (hp.Blk.new wd [.pointer q3] tyH).on ((Below.refl _ _).alloc (Nat.le_refl _) (.cells #[.pointer q4] tyH)); have kB := hp.Blk.newAt (w := wd.alloc (.cells #[.pointer q3] tyH)) (cs := [.pointer q4]) (t := tyH) (g := wd.heap.size + 1) (by simp); replace KK := st (st (st KK hb) ((Below.refl _ _).alloc (Nat.le_refl _) (.cells #[.pointer q3] tyH))) ((Below.refl _ _).alloc (Nat.le_refl _) (.cells #[.pointer q4] tyH)); replace hS := hS.on hb; replace hT := hT.on hb; replace kS := kS.on hb; replace kT := kT.on hb; replace i0 := i0.on hb; replace i1 := i1.on hb; replace hP := hP.on hb; replace hQ := hQ.on hb; replace hS := hS.on ((Below.refl _ _).alloc (Nat.le_refl _) (.cells #[.pointer q3] tyH)); replace hT := hT.on ((Below.refl _ _).alloc (Nat.le_refl _) (.cells #[.pointer q3] tyH)); replace kS := kS.on ((Below.refl _ _).alloc (Nat.le_refl _) (.cells #[.pointer q3] tyH)); replace kT := kT.on ((Below.refl _ _).alloc (Nat.le_refl _) (.cells #[.pointer q3] tyH)); replace i0 := i0.on ((Below.refl _ _).alloc (Nat.le_refl _) (.cells #[.pointer q3] tyH)); replace i1 := i1.on ((Below.refl _ _).alloc (Nat.le_refl _) (.cells #[.pointer q3] tyH)); replace hP := hP.on ((Below.refl _ _).alloc (Nat.le_refl _) (.cells #[.pointer q3] tyH)); replace hQ := hQ.on ((Below.refl _ _).alloc (Nat.le_refl _) (.cells #[.pointer q3] tyH)); replace hS := hS.on ((Below.refl _ _).alloc (Nat.le_refl _) (.cells #[.pointer q4] tyH)); replace hT := hT.on ((Below.refl _ _).alloc (Nat.le_refl _) (.cells #[.pointer q4] tyH)); replace kS := kS.on ((Below.refl _ _).alloc (Nat.le_refl _) (.cells #[.pointer q4] tyH)); replace kT := kT.on ((Below.refl _ _).alloc (Nat.le_refl _) (.cells #[.pointer q4] tyH)); replace i0 := i0.on ((Below.refl _ _).alloc (Nat.le_refl _) (.cells #[.pointer q4] tyH)); replace i1 := i1.on ((Below.refl _ _).alloc (Nat.le_refl _) (.cells #[.pointer q4] tyH)); replace hP := hP.on ((Below.refl _ _).alloc (Nat.le_refl _) (.cells #[.pointer q4] tyH)); replace hQ := hQ.on ((Below.refl _ _).alloc (Nat.le_refl _) (.cells #[.pointer q4] tyH)); replace hA := (hA.on ((Below.refl _ _).alloc (Nat.le_refl _) (.cells #[.pointer q3] tyH))).on ((Below.refl _ _).alloc (Nat.le_refl _) (.cells #[.pointer q4] tyH)); replace hB := (hB.on ((Below.refl _ _).alloc (Nat.le_refl _) (.cells #[.pointer q3] tyH))).on ((Below.refl _ _).alloc (Nat.le_refl _) (.cells #[.pointer q4] tyH)); clear hb; clear cS cT lS lT; ((try clear cS); have cS := (kS).cell 0; simp only [List.getElem?_cons_zero] at cS); ((try clear cT); have cT := (kT).cell 0; simp only [List.getElem?_cons_zero] at cT); have lS := kS.lt; have lT := kT.lt; ((try clear cA); have cA := (kA).cell 0; simp only [List.getElem?_cons_zero] at cA); ((try clear cB); have cB := (kB).cell 0; simp only [List.getElem?_cons_zero] at cB); have lA := kA.lt; have lB := kB.lt)
    | (go_at_call 31; (with_reducible refine (BL _ _ hP).mono ?_); clear BL; rintro e wz ⟨rfl, hb⟩; replace KK := st KK hb; replace hS := hS.on hb; replace hT := hT.on hb; replace kS := kS.on hb; replace kT := kT.on hb; replace i0 := i0.on hb; replace i1 := i1.on hb; replace hP := hP.on hb; replace hQ := hQ.on hb; replace hA := hA.on hb; replace hB := hB.on hb; replace kA := kA.on hb; replace kB := kB.on hb; clear hb cA cB lA lB; clear cS cT lS lT; ((try clear cS); have cS := (kS).cell 0; simp only [List.getElem?_cons_zero] at cS); ((try clear cT); have cT := (kT).cell 0; simp only [List.getElem?_cons_zero] at cT); have lS := kS.lt; have lT := kT.lt))
  have hcp := hP.cap
  have hNc : N ≤ cp := by omega
  apply rel.region (C := fun w' => Below wz.heap.size wz w') (X := fun w w' => Below w.heap.size w w') (by kernel_rfl) (by kernel_rfl) (by kernel_rfl) ((Below.refl _ _).drew)
  ((apply rel.walk_val; (focus (intro wq hq hf; (have d0 := (((kA).below hq (kA).lt)).cell 0; simp only [List.getElem?_cons_zero] at d0); go_wp2; refine ⟨hq, Below.refl _ _, ?_, rfl⟩; (show rel.slot _ _ = _; simp only [rel.slot_lit, List.getD_cons_succ, List.getD_cons_zero]; (first | done | exact rfl)))); (simp only [rel.put_lit, List.set_cons_succ, List.set_cons_zero])))
  (apply rel.walk_rel (fun u w' => hp.IsInts w' w'.heap.size u (A)) ⟨_, rfl⟩ (fun u w1 w2 h1 h2 => h2.on h1); (focus (intro wq hq hf; go_wp2_with (go_at_call 18; refine (ints_any (hA.on hq) hAl.out).mono ?_; rintro e w'' ⟨⟨u, rfl, hu⟩, hb⟩); refine ⟨hq.trans (hb.mono hq.size), hb, ?_, rfl⟩; (show hp.IsInts _ _ (rel.slot _ _) _; simp only [rel.slot_lit, List.getD_cons_succ, List.getD_cons_zero]; exact hu))); (intro u wu _ hu; obtain ⟨pu, cu, rfl, -⟩ := hu; (simp only [rel.put_lit, List.set_cons_succ, List.set_cons_zero])))
  (apply rel.walk_val; (focus (intro wq hq hf; go_wp2; refine ⟨hq, Below.refl _ _, ?_, rfl⟩; (show rel.slot _ _ = _; simp only [rel.slot_lit, List.getD_cons_succ, List.getD_cons_zero]; (first | done | exact rfl)))); (simp only [rel.put_lit, List.set_cons_succ, List.set_cons_zero]))
  (apply rel.walk_val; (focus (intro wq hq hf; go_wp2; refine ⟨hq, Below.refl _ _, ?_, rfl⟩; (show rel.slot _ _ = _; simp only [rel.slot_lit, List.getD_cons_succ, List.getD_cons_zero]; (first | done | exact rfl)))); (simp only [rel.put_lit, List.set_cons_succ, List.set_cons_zero]))
  (apply rel.walk_val; (focus (intro wq hq hf; go_wp2; refine ⟨hq, Below.refl _ _, ?_, rfl⟩; (show rel.slot _ _ = _; simp only [rel.slot_lit, List.getD_cons_succ, List.getD_cons_zero]; (first | done | exact rfl)))); (simp only [rel.put_lit, List.set_cons_succ, List.set_cons_zero]))
  (apply rel.walk_val; (focus (intro wq hq hf; go_wp2_with (go_at_call 17; refine (same.ints_eq rfl (hf.get 0 rfl rfl) (S1.out _ _ _ (hP.on hq))).mono ?_; rintro e w'' ⟨rfl, hb⟩); refine ⟨hq.trans (hb.mono hq.size), hb, ?_, rfl⟩; (show rel.slot _ _ = _; simp only [rel.slot_lit, List.getD_cons_succ, List.getD_cons_zero]; (first | done | exact rfl)))); (simp only [rel.put_lit, List.set_cons_succ, List.set_cons_zero]))
  (apply rel.walk_val; (focus (intro wq hq hf; go_wp2; refine ⟨hq, Below.refl _ _, ?_, rfl⟩; (show rel.slot _ _ = _; simp only [rel.slot_lit, List.getD_cons_succ, List.getD_cons_zero]; (first | done | exact rfl)))); (simp only [rel.put_lit, List.set_cons_succ, List.set_cons_zero]))
  refine rel.walk_nil ?_
  intro w5 K5 hF
  clear hF kA hA
  replace KK := st KK K5
  replace hS := hS.on K5; replace hT := hT.on K5; replace kS := kS.on K5; replace kT := kT.on K5; replace i0 := i0.on K5; replace i1 := i1.on K5; replace hP := hP.on K5; replace hQ := hQ.on K5; replace hB := hB.on K5; replace kB := kB.on K5
  clear K5 cS cT lS lT S1
  ((try clear cS); have cS := (kS).cell 0; simp only [List.getElem?_cons_zero] at cS); ((try clear cT); have cT := (kT).cell 0; simp only [List.getElem?_cons_zero] at cT); ((try clear cB); have cB := (kB).cell 0; simp only [List.getElem?_cons_zero] at cB); have lS := kS.lt; have lT := kT.lt; have lB := kB.lt
  rcases hz.out with ⟨rfl, z1, z2, z3⟩ | ⟨rfl, rfl, z1⟩ | ⟨rfl, rfl, z1, z2⟩
  · obtain ⟨b, off, rfl, hbb, hcx⟩ := cP.out _ _ _ hP z1 z2
    obtain ⟨n, rfl⟩ : ∃ n : Nat, i = n := ⟨i.toNat, by omega⟩
    rw [Int.toNat_natCast] at hcx z3
    rw [z3] at hcx
    have z4 : n < K.length := by omega
    have K6 := Below.refl w5.heap.size w5
    clear cP hz z1 z2 z3
    go_wp2_with (first
      | (go_at_call 21; (with_reducible refine (OF _ _ hP).mono ?_); rintro e wz ⟨rfl, hb⟩; replace KK := st KK hb; replace hS := hS.on hb; replace hT := hT.on hb; replace kS := kS.on hb; replace kT := kT.on hb; replace i0 := i0.on hb; replace i1 := i1.on hb; replace hP := hP.on hb; replace hQ := hQ.on hb; replace kB := kB.on hb; replace hB := hB.on hb; replace K6 := K6.trans (hb.mono K6.size); clear hb; clear cS cT cB lS lT lB; ((try clear cS); have cS := (kS).cell 0; simp only [List.getElem?_cons_zero] at cS); ((try clear cT); have cT := (kT).cell 0; simp only [List.getElem?_cons_zero] at cT); ((try clear cB); have cB := (kB).cell 0; simp only [List.getElem?_cons_zero] at cB); have lS := kS.lt; have lT := kT.lt; have lB := kB.lt)
      | (go_at_call 18; (with_reducible refine (ints_any hB hBl.out).mono ?_); rintro e wz ⟨⟨u_hI, rfl, hI⟩, hb⟩; replace KK := st KK hb; replace hS := hS.on hb; replace hT := hT.on hb; replace kS := kS.on hb; replace kT := kT.on hb; replace i0 := i0.on hb; replace i1 := i1.on hb; replace hP := hP.on hb; replace hQ := hQ.on hb; replace K6 := K6.trans (hb.mono K6.size); clear hB kB cB lB; clear hb; clear cS cT lS lT; ((try clear cS); have cS := (kS).cell 0; simp only [List.getElem?_cons_zero] at cS); ((try clear cT); have cT := (kT).cell 0; simp only [List.getElem?_cons_zero] at cT); have lS := kS.lt; have lT := kT.lt)
      | (go_at_call 17; (with_reducible refine (same.ints_eq rfl hI (S2.out _ _ _ hP)).mono ?_); rintro e wz ⟨rfl, hb⟩; replace KK := st KK hb; replace hS := hS.on hb; replace hT := hT.on hb; replace kS := kS.on hb; replace kT := kT.on hb; replace i0 := i0.on hb; replace i1 := i1.on hb; replace hP := hP.on hb; replace hQ := hQ.on hb; replace K6 := K6.trans (hb.mono K6.size); clear hI; clear hb; clear cS cT lS lT; ((try clear cS); have cS := (kS).cell 0; simp only [List.getElem?_cons_zero] at cS); ((try clear cT); have cT := (kT).cell 0; simp only [List.getElem?_cons_zero] at cT); have lS := kS.lt; have lT := kT.lt)
      | (go_at_call 29; (with_reducible refine (JN _ _ _ hS hT).mono ?_); rintro e wz ⟨⟨q_hU, rfl, hU⟩, hb⟩; replace KK := st KK hb; replace hS := hS.on hb; replace hT := hT.on hb; replace kS := kS.on hb; replace kT := kT.on hb; replace i0 := i0.on hb; replace i1 := i1.on hb; replace hP := hP.on hb; replace hQ := hQ.on hb; replace K6 := K6.trans (hb.mono K6.size); clear hb; clear cS cT lS lT; ((try clear cS); have cS := (kS).cell 0; simp only [List.getElem?_cons_zero] at cS); ((try clear cT); have cT := (kT).cell 0; simp only [List.getElem?_cons_zero] at cT); have lS := kS.lt; have lT := kT.lt)
      | (go_at_call 18; (with_reducible refine (ints_any hU hUl.out).mono ?_); rintro e wz ⟨⟨u_hI, rfl, hI⟩, hb⟩; replace KK := st KK hb; replace hS := hS.on hb; replace hT := hT.on hb; replace kS := kS.on hb; replace kT := kT.on hb; replace i0 := i0.on hb; replace i1 := i1.on hb; replace hP := hP.on hb; replace hQ := hQ.on hb; replace K6 := K6.trans (hb.mono K6.size); clear hU; clear hb; clear cS cT lS lT; ((try clear cS); have cS := (kS).cell 0; simp only [List.getElem?_cons_zero] at cS); ((try clear cT); have cT := (kT).cell 0; simp only [List.getElem?_cons_zero] at cT); have lS := kS.lt; have lT := kT.lt)
      | (go_at_call 16; (with_reducible refine (CA _ _ _ i0 i1).mono ?_); rintro e wz ⟨⟨u_hC, rfl, hC⟩, hb⟩; replace KK := st KK hb; replace hS := hS.on hb; replace hT := hT.on hb; replace kS := kS.on hb; replace kT := kT.on hb; replace i0 := i0.on hb; replace i1 := i1.on hb; replace hP := hP.on hb; replace hQ := hQ.on hb; replace K6 := K6.trans (hb.mono K6.size); replace hI := hI.on hb; clear hb; clear cS cT lS lT; ((try clear cS); have cS := (kS).cell 0; simp only [List.getElem?_cons_zero] at cS); ((try clear cT); have cT := (kT).cell 0; simp only [List.getElem?_cons_zero] at cT); have lS := kS.lt; have lT := kT.lt)
      | (go_at_call 15; (with_reducible refine (ON _ _ hC).mono ?_); rintro e wz ⟨⟨u_hJ, rfl, hJ⟩, hb⟩; replace KK := st KK hb; replace hS := hS.on hb; replace hT := hT.on hb; replace kS := kS.on hb; replace kT := kT.on hb; replace i0 := i0.on hb; replace i1 := i1.on hb; replace hP := hP.on hb; replace hQ := hQ.on hb; replace K6 := K6.trans (hb.mono K6.size); replace hI := hI.on hb; clear hC; clear hb; clear cS cT lS lT; ((try clear cS); have cS := (kS).cell 0; simp only [List.getElem?_cons_zero] at cS); ((try clear cT); have cT := (kT).cell 0; simp only [List.getElem?_cons_zero] at cT); have lS := kS.lt; have lT := kT.lt)
      | (go_at_call 17; (with_reducible refine (same.ints_eq rfl hI hJ).mono ?_); rintro e wz ⟨rfl, hb⟩; replace KK := st KK hb; replace hS := hS.on hb; replace hT := hT.on hb; replace kS := kS.on hb; replace kT := kT.on hb; replace i0 := i0.on hb; replace i1 := i1.on hb; replace hP := hP.on hb; replace hQ := hQ.on hb; replace K6 := K6.trans (hb.mono K6.size); clear hI hJ; clear hb; clear cS cT lS lT; ((try clear cS); have cS := (kS).cell 0; simp only [List.getElem?_cons_zero] at cS); ((try clear cT); have cT := (kT).cell 0; simp only [List.getElem?_cons_zero] at cT); have lS := kS.lt; have lT := kT.lt)
      | (go_at_call 21; (with_reducible refine (OF _ _ hP).mono ?_); rintro e wz ⟨rfl, hb⟩; replace KK := st KK hb; replace hS := hS.on hb; replace hT := hT.on hb; replace kS := kS.on hb; replace kT := kT.on hb; replace i0 := i0.on hb; replace i1 := i1.on hb; replace hP := hP.on hb; replace hQ := hQ.on hb; replace K6 := K6.trans (hb.mono K6.size); clear hb; clear cS cT lS lT; ((try clear cS); have cS := (kS).cell 0; simp only [List.getElem?_cons_zero] at cS); ((try clear cT); have cT := (kT).cell 0; simp only [List.getElem?_cons_zero] at cT); have lS := kS.lt; have lT := kT.lt)
      | (go_at_call 32; (with_reducible refine (RK _ _ hS).mono ?_); rintro e wz ⟨rfl, hb⟩; replace KK := st KK hb; replace hS := hS.on hb; replace hT := hT.on hb; replace kS := kS.on hb; replace kT := kT.on hb; replace i0 := i0.on hb; replace i1 := i1.on hb; replace hP := hP.on hb; replace hQ := hQ.on hb; replace K6 := K6.trans (hb.mono K6.size); clear hb; clear cS cT lS lT; ((try clear cS); have cS := (kS).cell 0; simp only [List.getElem?_cons_zero] at cS); ((try clear cT); have cT := (kT).cell 0; simp only [List.getElem?_cons_zero] at cT); have lS := kS.lt; have lT := kT.lt)
      | (go_at_call 33; (with_reducible refine (AT _ _ hS).mono ?_); rintro e wz ⟨rfl, hb⟩; replace KK := st KK hb; replace hS := hS.on hb; replace hT := hT.on hb; replace kS := kS.on hb; replace kT := kT.on hb; replace i0 := i0.on hb; replace i1 := i1.on hb; replace hP := hP.on hb; replace hQ := hQ.on hb; replace K6 := K6.trans (hb.mono K6.size); have cx := (K6.cell (p := ⟨b, off + n, none⟩) hbb).trans hcx; have lx := Nat.lt_of_lt_of_le hbb K6.size; clear hb; clear cS cT lS lT; ((try clear cS); have cS := (kS).cell 0; simp only [List.getElem?_cons_zero] at cS); ((try clear cT); have cT := (kT).cell 0; simp only [List.getElem?_cons_zero] at cT); have lS := kS.lt; have lT := kT.lt))
    go_ret
    exact ⟨rfl, KK⟩
  · clear cP hz
    go_wp2_with (first
      | (go_at_call 21; (with_reducible refine (OF _ _ hP).mono ?_); rintro e wz ⟨rfl, hb⟩; replace KK := st KK hb; replace hS := hS.on hb; replace hT := hT.on hb; replace kS := kS.on hb; replace kT := kT.on hb; replace i0 := i0.on hb; replace i1 := i1.on hb; replace hP := hP.on hb; replace hQ := hQ.on hb; replace kB := kB.on hb; replace hB := hB.on hb; clear hb; clear cS cT cB lS lT lB; ((try clear cS); have cS := (kS).cell 0; simp only [List.getElem?_cons_zero] at cS); ((try clear cT); have cT := (kT).cell 0; simp only [List.getElem?_cons_zero] at cT); ((try clear cB); have cB := (kB).cell 0; simp only [List.getElem?_cons_zero] at cB); have lS := kS.lt; have lT := kT.lt; have lB := kB.lt)
      | (go_at_call 18; (with_reducible refine (ints_any hB hBl.out).mono ?_); rintro e wz ⟨⟨u_hI, rfl, hI⟩, hb⟩; replace KK := st KK hb; replace hS := hS.on hb; replace hT := hT.on hb; replace kS := kS.on hb; replace kT := kT.on hb; replace i0 := i0.on hb; replace i1 := i1.on hb; replace hP := hP.on hb; replace hQ := hQ.on hb; clear hB kB cB lB; clear hb; clear cS cT lS lT; ((try clear cS); have cS := (kS).cell 0; simp only [List.getElem?_cons_zero] at cS); ((try clear cT); have cT := (kT).cell 0; simp only [List.getElem?_cons_zero] at cT); have lS := kS.lt; have lT := kT.lt)
      | (go_at_call 17; (with_reducible refine (same.ints_eq rfl hI (S2.out _ _ _ hP)).mono ?_); rintro e wz ⟨rfl, hb⟩; replace KK := st KK hb; replace hS := hS.on hb; replace hT := hT.on hb; replace kS := kS.on hb; replace kT := kT.on hb; replace i0 := i0.on hb; replace i1 := i1.on hb; replace hP := hP.on hb; replace hQ := hQ.on hb; clear hI; clear hb; clear cS cT lS lT; ((try clear cS); have cS := (kS).cell 0; simp only [List.getElem?_cons_zero] at cS); ((try clear cT); have cT := (kT).cell 0; simp only [List.getElem?_cons_zero] at cT); have lS := kS.lt; have lT := kT.lt)
      | (go_at_call 29; (with_reducible refine (JN _ _ _ hS hT).mono ?_); rintro e wz ⟨⟨q_hU, rfl, hU⟩, hb⟩; replace KK := st KK hb; replace hS := hS.on hb; replace hT := hT.on hb; replace kS := kS.on hb; replace kT := kT.on hb; replace i0 := i0.on hb; replace i1 := i1.on hb; replace hP := hP.on hb; replace hQ := hQ.on hb; clear hb; clear cS cT lS lT; ((try clear cS); have cS := (kS).cell 0; simp only [List.getElem?_cons_zero] at cS); ((try clear cT); have cT := (kT).cell 0; simp only [List.getElem?_cons_zero] at cT); have lS := kS.lt; have lT := kT.lt)
      | (go_at_call 18; (with_reducible refine (ints_any hU hUl.out).mono ?_); rintro e wz ⟨⟨u_hI, rfl, hI⟩, hb⟩; replace KK := st KK hb; replace hS := hS.on hb; replace hT := hT.on hb; replace kS := kS.on hb; replace kT := kT.on hb; replace i0 := i0.on hb; replace i1 := i1.on hb; replace hP := hP.on hb; replace hQ := hQ.on hb; clear hU; clear hb; clear cS cT lS lT; ((try clear cS); have cS := (kS).cell 0; simp only [List.getElem?_cons_zero] at cS); ((try clear cT); have cT := (kT).cell 0; simp only [List.getElem?_cons_zero] at cT); have lS := kS.lt; have lT := kT.lt)
      | (go_at_call 16; (with_reducible refine (CA _ _ _ i0 i1).mono ?_); rintro e wz ⟨⟨u_hC, rfl, hC⟩, hb⟩; replace KK := st KK hb; replace hS := hS.on hb; replace hT := hT.on hb; replace kS := kS.on hb; replace kT := kT.on hb; replace i0 := i0.on hb; replace i1 := i1.on hb; replace hP := hP.on hb; replace hQ := hQ.on hb; replace hI := hI.on hb; clear hb; clear cS cT lS lT; ((try clear cS); have cS := (kS).cell 0; simp only [List.getElem?_cons_zero] at cS); ((try clear cT); have cT := (kT).cell 0; simp only [List.getElem?_cons_zero] at cT); have lS := kS.lt; have lT := kT.lt)
      | (go_at_call 15; (with_reducible refine (ON _ _ hC).mono ?_); rintro e wz ⟨⟨u_hJ, rfl, hJ⟩, hb⟩; replace KK := st KK hb; replace hS := hS.on hb; replace hT := hT.on hb; replace kS := kS.on hb; replace kT := kT.on hb; replace i0 := i0.on hb; replace i1 := i1.on hb; replace hP := hP.on hb; replace hQ := hQ.on hb; replace hI := hI.on hb; clear hC; clear hb; clear cS cT lS lT; ((try clear cS); have cS := (kS).cell 0; simp only [List.getElem?_cons_zero] at cS); ((try clear cT); have cT := (kT).cell 0; simp only [List.getElem?_cons_zero] at cT); have lS := kS.lt; have lT := kT.lt)
      | (go_at_call 17; (with_reducible refine (same.ints_eq rfl hI hJ).mono ?_); rintro e wz ⟨rfl, hb⟩; replace KK := st KK hb; replace hS := hS.on hb; replace hT := hT.on hb; replace kS := kS.on hb; replace kT := kT.on hb; replace i0 := i0.on hb; replace i1 := i1.on hb; replace hP := hP.on hb; replace hQ := hQ.on hb; clear hI hJ; clear hb; clear cS cT lS lT; ((try clear cS); have cS := (kS).cell 0; simp only [List.getElem?_cons_zero] at cS); ((try clear cT); have cT := (kT).cell 0; simp only [List.getElem?_cons_zero] at cT); have lS := kS.lt; have lT := kT.lt)
      | (go_at_call 21; (with_reducible refine (OF _ _ hP).mono ?_); rintro e wz ⟨rfl, hb⟩; replace KK := st KK hb; replace hS := hS.on hb; replace hT := hT.on hb; replace kS := kS.on hb; replace kT := kT.on hb; replace i0 := i0.on hb; replace i1 := i1.on hb; replace hP := hP.on hb; replace hQ := hQ.on hb; clear hb; clear cS cT lS lT; ((try clear cS); have cS := (kS).cell 0; simp only [List.getElem?_cons_zero] at cS); ((try clear cT); have cT := (kT).cell 0; simp only [List.getElem?_cons_zero] at cT); have lS := kS.lt; have lT := kT.lt)
      | (go_at_call 32; (with_reducible refine (RK _ _ hS).mono ?_); rintro e wz ⟨rfl, hb⟩; replace KK := st KK hb; replace hS := hS.on hb; replace hT := hT.on hb; replace kS := kS.on hb; replace kT := kT.on hb; replace i0 := i0.on hb; replace i1 := i1.on hb; replace hP := hP.on hb; replace hQ := hQ.on hb; clear hb; clear cS cT lS lT; ((try clear cS); have cS := (kS).cell 0; simp only [List.getElem?_cons_zero] at cS); ((try clear cT); have cT := (kT).cell 0; simp only [List.getElem?_cons_zero] at cT); have lS := kS.lt; have lT := kT.lt)
      | (go_at_call 33; (with_reducible refine (AT _ _ hS).mono ?_); rintro e wz ⟨rfl, hb⟩; replace KK := st KK hb; replace hS := hS.on hb; replace hT := hT.on hb; replace kS := kS.on hb; replace kT := kT.on hb; replace i0 := i0.on hb; replace i1 := i1.on hb; replace hP := hP.on hb; replace hQ := hQ.on hb; clear hb; clear cS cT lS lT; ((try clear cS); have cS := (kS).cell 0; simp only [List.getElem?_cons_zero] at cS); ((try clear cT); have cT := (kT).cell 0; simp only [List.getElem?_cons_zero] at cT); have lS := kS.lt; have lT := kT.lt))
    go_ret
    exact ⟨rfl, KK⟩
  · clear cP hz
    go_wp2_with (first
      | (go_at_call 21; (with_reducible refine (OF _ _ hP).mono ?_); rintro e wz ⟨rfl, hb⟩; replace KK := st KK hb; replace hS := hS.on hb; replace hT := hT.on hb; replace kS := kS.on hb; replace kT := kT.on hb; replace i0 := i0.on hb; replace i1 := i1.on hb; replace hP := hP.on hb; replace hQ := hQ.on hb; replace kB := kB.on hb; replace hB := hB.on hb; clear hb; clear cS cT cB lS lT lB; ((try clear cS); have cS := (kS).cell 0; simp only [List.getElem?_cons_zero] at cS); ((try clear cT); have cT := (kT).cell 0; simp only [List.getElem?_cons_zero] at cT); ((try clear cB); have cB := (kB).cell 0; simp only [List.getElem?_cons_zero] at cB); have lS := kS.lt; have lT := kT.lt; have lB := kB.lt)
      | (go_at_call 18; (with_reducible refine (ints_any hB hBl.out).mono ?_); rintro e wz ⟨⟨u_hI, rfl, hI⟩, hb⟩; replace KK := st KK hb; replace hS := hS.on hb; replace hT := hT.on hb; replace kS := kS.on hb; replace kT := kT.on hb; replace i0 := i0.on hb; replace i1 := i1.on hb; replace hP := hP.on hb; replace hQ := hQ.on hb; clear hB kB cB lB; clear hb; clear cS cT lS lT; ((try clear cS); have cS := (kS).cell 0; simp only [List.getElem?_cons_zero] at cS); ((try clear cT); have cT := (kT).cell 0; simp only [List.getElem?_cons_zero] at cT); have lS := kS.lt; have lT := kT.lt)
      | (go_at_call 17; (with_reducible refine (same.ints_eq rfl hI (S2.out _ _ _ hP)).mono ?_); rintro e wz ⟨rfl, hb⟩; replace KK := st KK hb; replace hS := hS.on hb; replace hT := hT.on hb; replace kS := kS.on hb; replace kT := kT.on hb; replace i0 := i0.on hb; replace i1 := i1.on hb; replace hP := hP.on hb; replace hQ := hQ.on hb; clear hI; clear hb; clear cS cT lS lT; ((try clear cS); have cS := (kS).cell 0; simp only [List.getElem?_cons_zero] at cS); ((try clear cT); have cT := (kT).cell 0; simp only [List.getElem?_cons_zero] at cT); have lS := kS.lt; have lT := kT.lt)
      | (go_at_call 29; (with_reducible refine (JN _ _ _ hS hT).mono ?_); rintro e wz ⟨⟨q_hU, rfl, hU⟩, hb⟩; replace KK := st KK hb; replace hS := hS.on hb; replace hT := hT.on hb; replace kS := kS.on hb; replace kT := kT.on hb; replace i0 := i0.on hb; replace i1 := i1.on hb; replace hP := hP.on hb; replace hQ := hQ.on hb; clear hb; clear cS cT lS lT; ((try clear cS); have cS := (kS).cell 0; simp only [List.getElem?_cons_zero] at cS); ((try clear cT); have cT := (kT).cell 0; simp only [List.getElem?_cons_zero] at cT); have lS := kS.lt; have lT := kT.lt)
      | (go_at_call 18; (with_reducible refine (ints_any hU hUl.out).mono ?_); rintro e wz ⟨⟨u_hI, rfl, hI⟩, hb⟩; replace KK := st KK hb; replace hS := hS.on hb; replace hT := hT.on hb; replace kS := kS.on hb; replace kT := kT.on hb; replace i0 := i0.on hb; replace i1 := i1.on hb; replace hP := hP.on hb; replace hQ := hQ.on hb; clear hU; clear hb; clear cS cT lS lT; ((try clear cS); have cS := (kS).cell 0; simp only [List.getElem?_cons_zero] at cS); ((try clear cT); have cT := (kT).cell 0; simp only [List.getElem?_cons_zero] at cT); have lS := kS.lt; have lT := kT.lt)
      | (go_at_call 16; (with_reducible refine (CA _ _ _ i0 i1).mono ?_); rintro e wz ⟨⟨u_hC, rfl, hC⟩, hb⟩; replace KK := st KK hb; replace hS := hS.on hb; replace hT := hT.on hb; replace kS := kS.on hb; replace kT := kT.on hb; replace i0 := i0.on hb; replace i1 := i1.on hb; replace hP := hP.on hb; replace hQ := hQ.on hb; replace hI := hI.on hb; clear hb; clear cS cT lS lT; ((try clear cS); have cS := (kS).cell 0; simp only [List.getElem?_cons_zero] at cS); ((try clear cT); have cT := (kT).cell 0; simp only [List.getElem?_cons_zero] at cT); have lS := kS.lt; have lT := kT.lt)
      | (go_at_call 15; (with_reducible refine (ON _ _ hC).mono ?_); rintro e wz ⟨⟨u_hJ, rfl, hJ⟩, hb⟩; replace KK := st KK hb; replace hS := hS.on hb; replace hT := hT.on hb; replace kS := kS.on hb; replace kT := kT.on hb; replace i0 := i0.on hb; replace i1 := i1.on hb; replace hP := hP.on hb; replace hQ := hQ.on hb; replace hI := hI.on hb; clear hC; clear hb; clear cS cT lS lT; ((try clear cS); have cS := (kS).cell 0; simp only [List.getElem?_cons_zero] at cS); ((try clear cT); have cT := (kT).cell 0; simp only [List.getElem?_cons_zero] at cT); have lS := kS.lt; have lT := kT.lt)
      | (go_at_call 17; (with_reducible refine (same.ints_eq rfl hI hJ).mono ?_); rintro e wz ⟨rfl, hb⟩; replace KK := st KK hb; replace hS := hS.on hb; replace hT := hT.on hb; replace kS := kS.on hb; replace kT := kT.on hb; replace i0 := i0.on hb; replace i1 := i1.on hb; replace hP := hP.on hb; replace hQ := hQ.on hb; clear hI hJ; clear hb; clear cS cT lS lT; ((try clear cS); have cS := (kS).cell 0; simp only [List.getElem?_cons_zero] at cS); ((try clear cT); have cT := (kT).cell 0; simp only [List.getElem?_cons_zero] at cT); have lS := kS.lt; have lT := kT.lt)
      | (go_at_call 21; (with_reducible refine (OF _ _ hP).mono ?_); rintro e wz ⟨rfl, hb⟩; replace KK := st KK hb; replace hS := hS.on hb; replace hT := hT.on hb; replace kS := kS.on hb; replace kT := kT.on hb; replace i0 := i0.on hb; replace i1 := i1.on hb; replace hP := hP.on hb; replace hQ := hQ.on hb; clear hb; clear cS cT lS lT; ((try clear cS); have cS := (kS).cell 0; simp only [List.getElem?_cons_zero] at cS); ((try clear cT); have cT := (kT).cell 0; simp only [List.getElem?_cons_zero] at cT); have lS := kS.lt; have lT := kT.lt)
      | (go_at_call 32; (with_reducible refine (RK _ _ hS).mono ?_); rintro e wz ⟨rfl, hb⟩; replace KK := st KK hb; replace hS := hS.on hb; replace hT := hT.on hb; replace kS := kS.on hb; replace kT := kT.on hb; replace i0 := i0.on hb; replace i1 := i1.on hb; replace hP := hP.on hb; replace hQ := hQ.on hb; clear hb; clear cS cT lS lT; ((try clear cS); have cS := (kS).cell 0; simp only [List.getElem?_cons_zero] at cS); ((try clear cT); have cT := (kT).cell 0; simp only [List.getElem?_cons_zero] at cT); have lS := kS.lt; have lT := kT.lt)
      | (go_at_call 33; (with_reducible refine (AT _ _ hS).mono ?_); rintro e wz ⟨rfl, hb⟩; replace KK := st KK hb; replace hS := hS.on hb; replace hT := hT.on hb; replace kS := kS.on hb; replace kT := kT.on hb; replace i0 := i0.on hb; replace i1 := i1.on hb; replace hP := hP.on hb; replace hQ := hQ.on hb; clear hb; clear cS cT lS lT; ((try clear cS); have cS := (kS).cell 0; simp only [List.getElem?_cons_zero] at cS); ((try clear cT); have cT := (kT).cell 0; simp only [List.getElem?_cons_zero] at cT); have lS := kS.lt; have lT := kT.lt))
    go_ret
    refine ⟨?_, KK⟩
    have z3 : decide (i < (K.length : Int)) = false := decide_eq_false (by omega)
    simp [z3]

theorem walk (v0 : Value) (l0 : List Int) (v1 : Value) (l1 : List Int) (x i : Int) (w : World) (i0 : hp.IsInts w w.heap.size v0 l0) (i1 : hp.IsInts w w.heap.size v1 l1) (w2 : (Lit.int .i64 x).wf = true) (w3 : (Lit.int .i64 i).wf = true) (bd : l0.length + l1.length ≤ 1048576) :
    Calls Try.prog 6 #[v0, v1, .int .i64 x, .int .i64 i] w fun e w' => e = .returned (.bool true) ∧ Below w.heap.size w w' := by
  have hi : i ≤ 9223372036854775807 := by
    have := w3
    simp [Lit.wf, IntKind.min, IntKind.max, IntKind.signed, IntKind.bits] at this
    omega
  have aK := uniq_asc l0
  obtain ⟨y, is, h1, hz⟩ : ∃ y is, at_ (uniq l0) i = (y, is) ∧ ((is = true ∧ 0 ≤ i ∧ i < (uniq l0).length ∧ (uniq l0).getD i.toNat 0 = y) ∨ (is = false ∧ y = 0 ∧ i < 0) ∨ (is = false ∧ y = 0 ∧ 0 ≤ i ∧ ¬ i < (uniq l0).length)) := by
    by_cases h0 : 0 ≤ i
    · by_cases h1 : i < (uniq l0).length
      · exact ⟨_, true, by unfold at_; rw [if_pos ⟨h0, h1⟩], .inl ⟨rfl, h0, h1, rfl⟩⟩
      · exact ⟨0, false, by unfold at_; rw [if_neg (fun h => h1 h.2)], .inr (.inr ⟨rfl, rfl, h0, h1⟩)⟩
    · exact ⟨0, false, by unfold at_; rw [if_neg (fun h => h0 h.1)], .inr (.inl ⟨rfl, rfl, by omega⟩)⟩
  by_cases hm : x ∈ uniq l0
  · obtain ⟨a, b, hab⟩ := List.append_of_mem hm
    have hlo : lo x (uniq l0) = a := by rw [hab] at aK ⊢; exact lo_mid aK
    have hhi : wbt.hi x (uniq l0) = b := by rw [hab] at aK ⊢; exact hi_mid aK
    have hN : same.cnt (uniq l0) x = a.length := by rw [cnt_lo, hlo]
    refine core_yes v0 l0 v1 l1 x i y is _ _ _ _ _ _ a b a.length _ w i0 i1 bd rfl rfl rfl rfl rfl rfl hlo hhi hN rfl ?_ hm ?_ ?_ hi h1 hz
    · rw [hab]; simp
    · rw [hab]; simp
    · rw [hab]; simp
  · obtain ⟨b, hb, hge⟩ := wbtSets.parted x aK
    have hhi : wbt.hi x (uniq l0) = b := by
      rw [hb]
      rw [hi_app, hi_none (fun z hz => Int.le_of_lt (mem_lo.1 hz).2), List.nil_append]
      refine hi_all fun z hz => ?_
      have h2 := hge z hz
      have h3 : z ≠ x := by
        rintro rfl
        exact hm (by rw [hb]; simp [hz])
      omega
    have hN : same.cnt (uniq l0) x = (lo x (uniq l0)).length := cnt_lo _ _
    refine core_no v0 l0 v1 l1 x i y is _ _ _ _ _ _ (lo x (uniq l0)) b (lo x (uniq l0)).length _ w i0 i1 bd rfl rfl rfl rfl rfl rfl rfl hhi hN rfl ?_ hm ?_ hi h1 hz
    · generalize lo x (uniq l0) = A at *
      rw [hb, List.take_left' rfl]
    · generalize lo x (uniq l0) = A at *
      rw [hb, List.drop_left' rfl]
end Go.Proofs.Ytbdmccokdbfkpaa.wbtSets
