/- The walk of WbtEven. -/
import Derived.Test.YtbdmccokdbfkpaaWbtWalks
import Derived.Test.YtbdmccokdbfkpaaWbtShape
import Derived.Test.YtbdmccokdbfkpaaWbtJoin
import Derived.Test.YtbdmccokdbfkpaaWbtMany
import Derived.Test.YtbdmccokdbfkpaaSchInner
namespace Go.Proofs.Ytbdmccokdbfkpaa.wbtEven
open Go Go.RowKit Go.Proofs.Ytbdmccokdbfkpaa.wbt Go.Proofs.Ytbdmccokdbfkpaa.sch
set_option linter.unusedVariables false

set_option maxRecDepth 100000 in
set_option maxHeartbeats 16000000 in
theorem walk0 (v0 : Value) (l0 : List Int) (v1 : Value) (l1 : List Int) (x way : Int) (w : World) (i0 : hp.IsInts w w.heap.size v0 l0) (i1 : hp.IsInts w w.heap.size v1 l1) (bd : l0.length + l1.length ≤ 1048576) (h1 : ¬ way = 1) (h2 : ¬ way = 2) (h3 : ¬ way = 3) (h4 : ¬ way = 4) (h5 : ¬ way = 5) :
    Calls Try.prog 5 #[v0, v1, .int .i64 x, .int .i64 way] w fun e w' => e = .returned (.bool true) ∧ Below w.heap.size w w' := by
  have hul := uniq_le l0
  have hul1 := uniq_le l1
  obtain ⟨K, hK⟩ : ∃ K, uniq l0 = K := ⟨_, rfl⟩
  obtain ⟨M, hM⟩ : ∃ M, uniq l1 = M := ⟨_, rfl⟩
  rw [hK] at hul
  rw [hM] at hul1
  have H1 := fun W (hW : Below w.heap.size w W) => of_as hK (i0.on hW) (by omega)
  have H2 := fun W (hW : Below w.heap.size w W) => of_as hM (i1.on hW) (by omega)
  have hlK : K.length + M.length ≤ 1048576 := by omega
  have hlu := uni_le K M
  have hlm := cho_le true K M
  have hld := cho_le false K M
  have hll := lo_le x K
  have hlh := hi_le x K
  have hlj := uni_le (lo x K) (hi x K)
  have hlj2 := uni_le (hi x K) M
  have hlj3 := lo_hi_le x K
  obtain ⟨D, hD, hDl⟩ : ∃ D, Hid (uni K M = D) ∧ D.length ≤ 1048576 := ⟨_, rfl, by omega⟩
  obtain ⟨a0, c0, rfl, -⟩ := i0
  obtain ⟨a1, c1, rfl, -⟩ := i1
  have KK := Below.refl w.heap.size w
  clear hul hul1 hK hM bd hlu hlm hld hll hlh hlj hlj2 hlj3
  generalize decide (x ∈ K) = f at *
  go_enter Try.func5, Try.ntmps5
  go_wp2_with (first
    | (go_at_call 11; (with_reducible refine (wbted_any _).mono ?_); rintro e wa ⟨rfl, hb⟩; replace KK := st KK hb; clear hb)
    | (go_at_call 24; (with_reducible refine (H1 _ KK).mono ?_); clear H1; rintro e wb ⟨⟨q1, rfl, hS⟩, hb⟩; have kS := hp.Blk.new wb [.pointer q1] tyH; replace KK := st (st KK hb) ((Below.refl _ _).alloc (Nat.le_refl _) (.cells #[.pointer q1] tyH)); replace hS := hS.on ((Below.refl _ _).alloc (Nat.le_refl _) (.cells #[.pointer q1] tyH)); clear hb)
    | (go_at_call 24; (with_reducible refine (H2 _ KK).mono ?_); clear H2; rintro e wc ⟨⟨q2, rfl, hT⟩, hb⟩; have kT := hp.Blk.new wc [.pointer q2] tyH; replace KK := st (st KK hb) ((Below.refl _ _).alloc (Nat.le_refl _) (.cells #[.pointer q2] tyH)); replace hT := hT.on ((Below.refl _ _).alloc (Nat.le_refl _) (.cells #[.pointer q2] tyH)); replace hS := (hS.on hb).on ((Below.refl _ _).alloc (Nat.le_refl _) (.cells #[.pointer q2] tyH)); replace kS := (kS.on hb).on ((Below.refl _ _).alloc (Nat.le_refl _) (.cells #[.pointer q2] tyH)); clear hb; ((try clear cS); have cS := (kS).cell 0; simp only [List.getElem?_cons_zero] at cS); ((try clear cT); have cT := (kT).cell 0; simp only [List.getElem?_cons_zero] at cT); have lS := kS.lt; have lT := kT.lt)
    | (go_at_call 25; (with_reducible refine (set_split (x := x) hS (by omega)).mono ?_); rintro e wd ⟨⟨q3, q4, rfl, hA, hB⟩, hb⟩; have kA := (hp.Blk.new wd [.pointer q3] tyH).on ((Below.refl _ _).alloc (Nat.le_refl _) (.cells #[.pointer q4] tyH)); have kB := hp.Blk.newAt (w := wd.alloc (.cells #[.pointer q3] tyH)) (cs := [.pointer q4]) (t := tyH) (g := wd.heap.size + 1) (by simp); replace KK := st (st (st KK hb) ((Below.refl _ _).alloc (Nat.le_refl _) (.cells #[.pointer q3] tyH))) ((Below.refl _ _).alloc (Nat.le_refl _) (.cells #[.pointer q4] tyH)); replace hS := ((hS.on hb).on ((Below.refl _ _).alloc (Nat.le_refl _) (.cells #[.pointer q3] tyH))).on ((Below.refl _ _).alloc (Nat.le_refl _) (.cells #[.pointer q4] tyH)); replace hT := ((hT.on hb).on ((Below.refl _ _).alloc (Nat.le_refl _) (.cells #[.pointer q3] tyH))).on ((Below.refl _ _).alloc (Nat.le_refl _) (.cells #[.pointer q4] tyH)); replace kS := ((kS.on hb).on ((Below.refl _ _).alloc (Nat.le_refl _) (.cells #[.pointer q3] tyH))).on ((Below.refl _ _).alloc (Nat.le_refl _) (.cells #[.pointer q4] tyH)); replace kT := ((kT.on hb).on ((Below.refl _ _).alloc (Nat.le_refl _) (.cells #[.pointer q3] tyH))).on ((Below.refl _ _).alloc (Nat.le_refl _) (.cells #[.pointer q4] tyH)); replace hA := (hA.on ((Below.refl _ _).alloc (Nat.le_refl _) (.cells #[.pointer q3] tyH))).on ((Below.refl _ _).alloc (Nat.le_refl _) (.cells #[.pointer q4] tyH)); replace hB := (hB.on ((Below.refl _ _).alloc (Nat.le_refl _) (.cells #[.pointer q3] tyH))).on ((Below.refl _ _).alloc (Nat.le_refl _) (.cells #[.pointer q4] tyH)); clear hb cS cT lS lT; ((try clear cS); have cS := (kS).cell 0; simp only [List.getElem?_cons_zero] at cS); ((try clear cT); have cT := (kT).cell 0; simp only [List.getElem?_cons_zero] at cT); have lS := kS.lt; have lT := kT.lt)
    | (go_at_call 26; (with_reducible refine (set_union hS hT (by omega)).mono ?_); rintro e we ⟨⟨q5, rfl, hU⟩, hb⟩; have kU := hp.Blk.new we [.pointer q5] tyH; have hgb := (st KK hb).size; replace KK := st (st KK hb) ((Below.refl _ _).alloc (Nat.le_refl _) (.cells #[.pointer q5] tyH)); replace hU := hU.on ((Below.refl _ _).alloc (Nat.le_refl _) (.cells #[.pointer q5] tyH)); replace hS := hS.on hb; replace hT := hT.on hb; replace hA := hA.on hb; replace hB := hB.on hb; replace kS := kS.on hb; replace kT := kT.on hb; replace kA := kA.on hb; replace kB := kB.on hb; replace hS := hS.on ((Below.refl _ _).alloc (Nat.le_refl _) (.cells #[.pointer q5] tyH)); replace hT := hT.on ((Below.refl _ _).alloc (Nat.le_refl _) (.cells #[.pointer q5] tyH)); replace hA := hA.on ((Below.refl _ _).alloc (Nat.le_refl _) (.cells #[.pointer q5] tyH)); replace hB := hB.on ((Below.refl _ _).alloc (Nat.le_refl _) (.cells #[.pointer q5] tyH)); replace kS := kS.on ((Below.refl _ _).alloc (Nat.le_refl _) (.cells #[.pointer q5] tyH)); replace kT := kT.on ((Below.refl _ _).alloc (Nat.le_refl _) (.cells #[.pointer q5] tyH)); replace kA := kA.on ((Below.refl _ _).alloc (Nat.le_refl _) (.cells #[.pointer q5] tyH)); replace kB := kB.on ((Below.refl _ _).alloc (Nat.le_refl _) (.cells #[.pointer q5] tyH)); clear hb cS cT lS lT; have hX := hU; (rw [hD.out] at hX); have kX := kU; clear hU kU hS hT hA hB kS kT kA kB; ((try clear cX); have cX := (kX).cell 0; simp only [List.getElem?_cons_zero] at cX); have lX := kX.lt)
    | (go_at_call 23; (with_reducible refine (set_shape hX hDl).mono ?_); rintro e w2 ⟨⟨u, t, rfl, hav, hkt, hnd⟩, hb2⟩; have hnd2 := hnd; (obtain ⟨an, cn, rfl, -⟩ := hnd2)))
  have hlt' : (shp t 0).length = D.length := by rw [shp_len, hkt]
  have hsub := sub_at (P := Wb) wb_sub (ns := shp t 0) t 0 (At.top t) hav
  have hhi := fun (t' : Tr) (o : Nat) (W : World) (hW : Below w2.heap.size w2 W) (hat : At (shp t 0) t' o) => many_any (ns := shp t 0) (by omega) t' o _ W (hnd.on hW) hat
  have hsd := fun W v (hW : Below w2.heap.size w2 W) (hv : hp.IsInts W W.heap.size v D) => shaped_any (hnd.on hW) hv hkt hDl
  have hA2 := kX.on hb2
  have hX2 := hX.on hb2
  replace KK := st KK hb2
  rw [hkt] at hsub
  simp only [Nat.zero_add] at hsub
  have hlen2 := fun W (hW : Below w2.heap.size w2 W) => len_any _ _ _ (hX2.on hW)
  have hint2 := fun W (hW : Below w2.heap.size w2 W) => ints_any (hX2.on hW) (by omega)
  obtain ⟨N, hN⟩ : ∃ N, D.length = N := ⟨_, rfl⟩
  rw [hN] at hlt' hDl hsub hlen2
  obtain ⟨ns, hns⟩ : ∃ ns, shp t 0 = ns := ⟨_, rfl⟩
  rw [hns] at hlt' hsub hhi hnd hsd
  rw [hns, hlt']
  rw [hlt'] at hhi hsd
  replace hlt' := Lib.hid hlt'
  clear hkt hns hN hb2 hav hX kX hX2
  go_loopw [17] (fun i wr => ∃ j : Nat, i = .int .i64 j ∧ j ≤ N ∧ Below w2.heap.size w2 wr) (fun i _ => N - (intOf i).toNat)
  case atStart => exact ⟨0, rfl, Nat.zero_le _, Below.refl _ _⟩
  case round =>
    rename World => W
    obtain ⟨j, rfl, hj, hbW⟩ := hrel
    by_cases hlt : j < N
    · obtain ⟨y, m, l, r, hat, hm, k1, k2, -, -⟩ := hsub j (Nat.zero_le _) hlt
      obtain ⟨ho, hnj, hal, har⟩ := hat.node
      obtain ⟨g, cap, he, hg, -, q1, q2, q3⟩ := hnd.at hnj
      cases he
      simp only at q1 q2 q3
      have hla := hal.len
      have hra := har.len
      rw [hlt'.out] at hla hra
      have h1 := fun W (hW : Below w2.heap.size w2 W) => hhi l _ W hW hal
      have h2 := fun W (hW : Below w2.heap.size w2 W) => hhi r _ W hW har
      obtain ⟨li, hli⟩ : ∃ li, idx l (j + 1) = li := ⟨_, rfl⟩
      obtain ⟨ri, hri⟩ : ∃ ri, idx r (j + 1 + (keys l).length) = ri := ⟨_, rfl⟩
      rw [hli] at q1 h1
      rw [hri] at q2 h2
      unfold wt siz at k1 k2
      unfold siz at hm
      obtain ⟨a, ha⟩ : ∃ a, (keys l).length = a := ⟨_, rfl⟩
      obtain ⟨b, hb'⟩ : ∃ b, (keys r).length = b := ⟨_, rfl⟩
      rw [ha] at h1 k1 k2 hm hla hra
      rw [hb'] at h2 k1 k2 hm hra
      have hm2 : m = (a : Int) + 1 + ((b : Int) + 1) - 1 := by rw [hm]; omega
      subst hm2
      have ha2 : a ≤ 1048576 := by omega
      have hb2 : b ≤ 1048576 := by omega
      have p1 := fun W (hW : Below w2.heap.size w2 W) => (hW.cell (p := ⟨g, j * 4 + 1, none⟩) hg).trans q1
      have p2 := fun W (hW : Below w2.heap.size w2 W) => (hW.cell (p := ⟨g, j * 4 + 2, none⟩) hg).trans q2
      have p3 := fun W (hW : Below w2.heap.size w2 W) => (hW.cell (p := ⟨g, j * 4 + 3, none⟩) hg).trans q3
      have c1 := p1 _ hbW
      have hg1 := Nat.lt_of_lt_of_le hg hbW.size
      have kb1 : ¬ (3 * ((b : Int) + 1) < (a : Int) + 1) := by omega
      have kb2 : ¬ (3 * ((a : Int) + 1) < (b : Int) + 1) := by omega
      clear hat hnj hal har hla hra hli hri ha hb' hm k1 k2 hsub hhi q1 q2 q3 hsd hint2 hlen2
      go_wp2_with (first
        | (go_at_call 30; (with_reducible refine (h1 _ hbW).mono ?_); clear h1 c1 hg1; rintro e w3 ⟨rfl, hb3⟩; replace hbW := hbW.trans (hb3.mono hbW.size); have c2 := p2 _ hbW; have hg1 := Nat.lt_of_lt_of_le hg hbW.size; clear hb3)
        | (go_at_call 30; (with_reducible refine (h2 _ hbW).mono ?_); clear h2 c2 hg1; rintro e w4 ⟨rfl, hb3⟩; replace hbW := hbW.trans (hb3.mono hbW.size); have c3 := p3 _ hbW; have hg1 := Nat.lt_of_lt_of_le hg hbW.size; clear hb3))
      go_roundw
      case rel => exact ⟨j + 1, by go_num, by omega, hbW⟩
      case measure => simp [intOf]; omega
    · obtain rfl : j = N := by omega
      ((try clear cX); have cX := ((hA2.on hbW)).cell 0; simp only [List.getElem?_cons_zero] at cX)
      have lX := (hA2.on hbW).lt
      clear hsub hhi
      go_wp2_with (first
        | (go_at_call 19; (with_reducible refine (hlen2 _ hbW).mono ?_); clear hlen2; rintro e w5 ⟨rfl, hb5⟩; replace hbW := hbW.trans (hb5.mono hbW.size); clear hb5 cX lX; ((try clear cX); have cX := ((hA2.on hbW)).cell 0; simp only [List.getElem?_cons_zero] at cX); have lX := (hA2.on hbW).lt)
        | (go_at_call 18; (with_reducible refine (hint2 _ hbW).mono ?_); clear hint2; rintro e w6 ⟨⟨u6, rfl, hI⟩, hb5⟩; replace hbW := hbW.trans (hb5.mono hbW.size); clear hb5 cX lX)
        | (go_at_call 22; (with_reducible refine (hsd _ _ hbW hI).mono ?_); clear hsd; rintro e w7 ⟨rfl, hb5⟩; replace hbW := hbW.trans (hb5.mono hbW.size); clear hb5))
      go_ret
      exact ⟨rfl, KK.trans (hbW.mono KK.size)⟩

set_option maxRecDepth 100000 in
set_option maxHeartbeats 16000000 in
theorem walk1 (v0 : Value) (l0 : List Int) (v1 : Value) (l1 : List Int) (x way : Int) (w : World) (i0 : hp.IsInts w w.heap.size v0 l0) (i1 : hp.IsInts w w.heap.size v1 l1) (bd : l0.length + l1.length ≤ 1048576)  :
    Calls Try.prog 5 #[v0, v1, .int .i64 x, .int .i64 1] w fun e w' => e = .returned (.bool true) ∧ Below w.heap.size w w' := by
  have hul := uniq_le l0
  have hul1 := uniq_le l1
  obtain ⟨K, hK⟩ : ∃ K, uniq l0 = K := ⟨_, rfl⟩
  obtain ⟨M, hM⟩ : ∃ M, uniq l1 = M := ⟨_, rfl⟩
  rw [hK] at hul
  rw [hM] at hul1
  have H1 := fun W (hW : Below w.heap.size w W) => of_as hK (i0.on hW) (by omega)
  have H2 := fun W (hW : Below w.heap.size w W) => of_as hM (i1.on hW) (by omega)
  have hlK : K.length + M.length ≤ 1048576 := by omega
  have hlu := uni_le K M
  have hlm := cho_le true K M
  have hld := cho_le false K M
  have hll := lo_le x K
  have hlh := hi_le x K
  have hlj := uni_le (lo x K) (hi x K)
  have hlj2 := uni_le (hi x K) M
  have hlj3 := lo_hi_le x K
  obtain ⟨D, hD, hDl⟩ : ∃ D, Hid (cho true K M = D) ∧ D.length ≤ 1048576 := ⟨_, rfl, by omega⟩
  obtain ⟨a0, c0, rfl, -⟩ := i0
  obtain ⟨a1, c1, rfl, -⟩ := i1
  have KK := Below.refl w.heap.size w
  clear hul hul1 hK hM bd hlu hlm hld hll hlh hlj hlj2 hlj3
  generalize decide (x ∈ K) = f at *
  go_enter Try.func5, Try.ntmps5
  go_wp2_with (first
    | (go_at_call 11; (with_reducible refine (wbted_any _).mono ?_); rintro e wa ⟨rfl, hb⟩; replace KK := st KK hb; clear hb)
    | (go_at_call 24; (with_reducible refine (H1 _ KK).mono ?_); clear H1; rintro e wb ⟨⟨q1, rfl, hS⟩, hb⟩; have kS := hp.Blk.new wb [.pointer q1] tyH; replace KK := st (st KK hb) ((Below.refl _ _).alloc (Nat.le_refl _) (.cells #[.pointer q1] tyH)); replace hS := hS.on ((Below.refl _ _).alloc (Nat.le_refl _) (.cells #[.pointer q1] tyH)); clear hb)
    | (go_at_call 24; (with_reducible refine (H2 _ KK).mono ?_); clear H2; rintro e wc ⟨⟨q2, rfl, hT⟩, hb⟩; have kT := hp.Blk.new wc [.pointer q2] tyH; replace KK := st (st KK hb) ((Below.refl _ _).alloc (Nat.le_refl _) (.cells #[.pointer q2] tyH)); replace hT := hT.on ((Below.refl _ _).alloc (Nat.le_refl _) (.cells #[.pointer q2] tyH)); replace hS := (hS.on hb).on ((Below.refl _ _).alloc (Nat.le_refl _) (.cells #[.pointer q2] tyH)); replace kS := (kS.on hb).on ((Below.refl _ _).alloc (Nat.le_refl _) (.cells #[.pointer q2] tyH)); clear hb; ((try clear cS); have cS := (kS).cell 0; simp only [List.getElem?_cons_zero] at cS); ((try clear cT); have cT := (kT).cell 0; simp only [List.getElem?_cons_zero] at cT); have lS := kS.lt; have lT := kT.lt)
    | (go_at_call 25; (with_reducible refine (set_split (x := x) hS (by omega)).mono ?_); rintro e wd ⟨⟨q3, q4, rfl, hA, hB⟩, hb⟩; have kA := (hp.Blk.new wd [.pointer q3] tyH).on ((Below.refl _ _).alloc (Nat.le_refl _) (.cells #[.pointer q4] tyH)); have kB := hp.Blk.newAt (w := wd.alloc (.cells #[.pointer q3] tyH)) (cs := [.pointer q4]) (t := tyH) (g := wd.heap.size + 1) (by simp); replace KK := st (st (st KK hb) ((Below.refl _ _).alloc (Nat.le_refl _) (.cells #[.pointer q3] tyH))) ((Below.refl _ _).alloc (Nat.le_refl _) (.cells #[.pointer q4] tyH)); replace hS := ((hS.on hb).on ((Below.refl _ _).alloc (Nat.le_refl _) (.cells #[.pointer q3] tyH))).on ((Below.refl _ _).alloc (Nat.le_refl _) (.cells #[.pointer q4] tyH)); replace hT := ((hT.on hb).on ((Below.refl _ _).alloc (Nat.le_refl _) (.cells #[.pointer q3] tyH))).on ((Below.refl _ _).alloc (Nat.le_refl _) (.cells #[.pointer q4] tyH)); replace kS := ((kS.on hb).on ((Below.refl _ _).alloc (Nat.le_refl _) (.cells #[.pointer q3] tyH))).on ((Below.refl _ _).alloc (Nat.le_refl _) (.cells #[.pointer q4] tyH)); replace kT := ((kT.on hb).on ((Below.refl _ _).alloc (Nat.le_refl _) (.cells #[.pointer q3] tyH))).on ((Below.refl _ _).alloc (Nat.le_refl _) (.cells #[.pointer q4] tyH)); replace hA := (hA.on ((Below.refl _ _).alloc (Nat.le_refl _) (.cells #[.pointer q3] tyH))).on ((Below.refl _ _).alloc (Nat.le_refl _) (.cells #[.pointer q4] tyH)); replace hB := (hB.on ((Below.refl _ _).alloc (Nat.le_refl _) (.cells #[.pointer q3] tyH))).on ((Below.refl _ _).alloc (Nat.le_refl _) (.cells #[.pointer q4] tyH)); clear hb cS cT lS lT; ((try clear cS); have cS := (kS).cell 0; simp only [List.getElem?_cons_zero] at cS); ((try clear cT); have cT := (kT).cell 0; simp only [List.getElem?_cons_zero] at cT); have lS := kS.lt; have lT := kT.lt)
    | (go_at_call 26; (with_reducible refine (set_union hS hT (by omega)).mono ?_); rintro e we ⟨⟨q5, rfl, hU⟩, hb⟩; have kU := hp.Blk.new we [.pointer q5] tyH; have hgb := (st KK hb).size; replace KK := st (st KK hb) ((Below.refl _ _).alloc (Nat.le_refl _) (.cells #[.pointer q5] tyH)); replace hU := hU.on ((Below.refl _ _).alloc (Nat.le_refl _) (.cells #[.pointer q5] tyH)); replace hS := hS.on hb; replace hT := hT.on hb; replace hA := hA.on hb; replace hB := hB.on hb; replace kS := kS.on hb; replace kT := kT.on hb; replace kA := kA.on hb; replace kB := kB.on hb; replace hS := hS.on ((Below.refl _ _).alloc (Nat.le_refl _) (.cells #[.pointer q5] tyH)); replace hT := hT.on ((Below.refl _ _).alloc (Nat.le_refl _) (.cells #[.pointer q5] tyH)); replace hA := hA.on ((Below.refl _ _).alloc (Nat.le_refl _) (.cells #[.pointer q5] tyH)); replace hB := hB.on ((Below.refl _ _).alloc (Nat.le_refl _) (.cells #[.pointer q5] tyH)); replace kS := kS.on ((Below.refl _ _).alloc (Nat.le_refl _) (.cells #[.pointer q5] tyH)); replace kT := kT.on ((Below.refl _ _).alloc (Nat.le_refl _) (.cells #[.pointer q5] tyH)); replace kA := kA.on ((Below.refl _ _).alloc (Nat.le_refl _) (.cells #[.pointer q5] tyH)); replace kB := kB.on ((Below.refl _ _).alloc (Nat.le_refl _) (.cells #[.pointer q5] tyH)); clear hb cS cT lS lT; ((try clear cS); have cS := (kS).cell 0; simp only [List.getElem?_cons_zero] at cS); ((try clear cT); have cT := (kT).cell 0; simp only [List.getElem?_cons_zero] at cT); ((try clear cA); have cA := (kA).cell 0; simp only [List.getElem?_cons_zero] at cA); ((try clear cB); have cB := (kB).cell 0; simp only [List.getElem?_cons_zero] at cB); ((try clear cU); have cU := (kU).cell 0; simp only [List.getElem?_cons_zero] at cU); have lS := kS.lt; have lT := kT.lt; have lA := kA.lt; have lB := kB.lt; have lU := kU.lt; have fU := kU.free 0)
    | (go_at_call 27; (with_reducible refine (set_inter hS hT (by omega)).mono ?_); rintro e w6 ⟨⟨q6, rfl, hV⟩, hb⟩; have kU6 := kU.on hb; replace KK := st KK hb; clear hb cS cT cA cB cU lS lT lA lB lU fU hU kU hS hT hA hB kS kT kA kB; (obtain ⟨W9, hW9, kX, hX, KK9, -⟩ := wbt.stored kU6 hgb KK hV); clear hV KK; have KK := KK9; clear KK9; (rw [hD.out] at hX); have fU6 := kU6.free 0; ((try clear cU6); have cU6 := (kU6).cell 0; simp only [List.getElem?_cons_zero] at cU6); have lU6 := kU6.lt; ((try clear cX); have cX := (kX).cell 0; simp only [List.getElem?_cons_zero] at cX); have lX := kX.lt)
    | (go_at_call 23; (with_reducible refine (set_shape hX hDl).mono ?_); rintro e w2 ⟨⟨u, t, rfl, hav, hkt, hnd⟩, hb2⟩; have hnd2 := hnd; (obtain ⟨an, cn, rfl, -⟩ := hnd2)))
  have hlt' : (shp t 0).length = D.length := by rw [shp_len, hkt]
  have hsub := sub_at (P := Wb) wb_sub (ns := shp t 0) t 0 (At.top t) hav
  have hhi := fun (t' : Tr) (o : Nat) (W : World) (hW : Below w2.heap.size w2 W) (hat : At (shp t 0) t' o) => many_any (ns := shp t 0) (by omega) t' o _ W (hnd.on hW) hat
  have hsd := fun W v (hW : Below w2.heap.size w2 W) (hv : hp.IsInts W W.heap.size v D) => shaped_any (hnd.on hW) hv hkt hDl
  have hA2 := kX.on hb2
  have hX2 := hX.on hb2
  replace KK := st KK hb2
  rw [hkt] at hsub
  simp only [Nat.zero_add] at hsub
  have hlen2 := fun W (hW : Below w2.heap.size w2 W) => len_any _ _ _ (hX2.on hW)
  have hint2 := fun W (hW : Below w2.heap.size w2 W) => ints_any (hX2.on hW) (by omega)
  obtain ⟨N, hN⟩ : ∃ N, D.length = N := ⟨_, rfl⟩
  rw [hN] at hlt' hDl hsub hlen2
  obtain ⟨ns, hns⟩ : ∃ ns, shp t 0 = ns := ⟨_, rfl⟩
  rw [hns] at hlt' hsub hhi hnd hsd
  rw [hns, hlt']
  rw [hlt'] at hhi hsd
  replace hlt' := Lib.hid hlt'
  clear hkt hns hN hb2 hav hX kX hX2
  go_loopw [17] (fun i wr => ∃ j : Nat, i = .int .i64 j ∧ j ≤ N ∧ Below w2.heap.size w2 wr) (fun i _ => N - (intOf i).toNat)
  case atStart => exact ⟨0, rfl, Nat.zero_le _, Below.refl _ _⟩
  case round =>
    rename World => W
    obtain ⟨j, rfl, hj, hbW⟩ := hrel
    by_cases hlt : j < N
    · obtain ⟨y, m, l, r, hat, hm, k1, k2, -, -⟩ := hsub j (Nat.zero_le _) hlt
      obtain ⟨ho, hnj, hal, har⟩ := hat.node
      obtain ⟨g, cap, he, hg, -, q1, q2, q3⟩ := hnd.at hnj
      cases he
      simp only at q1 q2 q3
      have hla := hal.len
      have hra := har.len
      rw [hlt'.out] at hla hra
      have h1 := fun W (hW : Below w2.heap.size w2 W) => hhi l _ W hW hal
      have h2 := fun W (hW : Below w2.heap.size w2 W) => hhi r _ W hW har
      obtain ⟨li, hli⟩ : ∃ li, idx l (j + 1) = li := ⟨_, rfl⟩
      obtain ⟨ri, hri⟩ : ∃ ri, idx r (j + 1 + (keys l).length) = ri := ⟨_, rfl⟩
      rw [hli] at q1 h1
      rw [hri] at q2 h2
      unfold wt siz at k1 k2
      unfold siz at hm
      obtain ⟨a, ha⟩ : ∃ a, (keys l).length = a := ⟨_, rfl⟩
      obtain ⟨b, hb'⟩ : ∃ b, (keys r).length = b := ⟨_, rfl⟩
      rw [ha] at h1 k1 k2 hm hla hra
      rw [hb'] at h2 k1 k2 hm hra
      have hm2 : m = (a : Int) + 1 + ((b : Int) + 1) - 1 := by rw [hm]; omega
      subst hm2
      have ha2 : a ≤ 1048576 := by omega
      have hb2 : b ≤ 1048576 := by omega
      have p1 := fun W (hW : Below w2.heap.size w2 W) => (hW.cell (p := ⟨g, j * 4 + 1, none⟩) hg).trans q1
      have p2 := fun W (hW : Below w2.heap.size w2 W) => (hW.cell (p := ⟨g, j * 4 + 2, none⟩) hg).trans q2
      have p3 := fun W (hW : Below w2.heap.size w2 W) => (hW.cell (p := ⟨g, j * 4 + 3, none⟩) hg).trans q3
      have c1 := p1 _ hbW
      have hg1 := Nat.lt_of_lt_of_le hg hbW.size
      have kb1 : ¬ (3 * ((b : Int) + 1) < (a : Int) + 1) := by omega
      have kb2 : ¬ (3 * ((a : Int) + 1) < (b : Int) + 1) := by omega
      clear hat hnj hal har hla hra hli hri ha hb' hm k1 k2 hsub hhi q1 q2 q3 hsd hint2 hlen2
      go_wp2_with (first
        | (go_at_call 30; (with_reducible refine (h1 _ hbW).mono ?_); clear h1 c1 hg1; rintro e w3 ⟨rfl, hb3⟩; replace hbW := hbW.trans (hb3.mono hbW.size); have c2 := p2 _ hbW; have hg1 := Nat.lt_of_lt_of_le hg hbW.size; clear hb3)
        | (go_at_call 30; (with_reducible refine (h2 _ hbW).mono ?_); clear h2 c2 hg1; rintro e w4 ⟨rfl, hb3⟩; replace hbW := hbW.trans (hb3.mono hbW.size); have c3 := p3 _ hbW; have hg1 := Nat.lt_of_lt_of_le hg hbW.size; clear hb3))
      go_roundw
      case rel => exact ⟨j + 1, by go_num, by omega, hbW⟩
      case measure => simp [intOf]; omega
    · obtain rfl : j = N := by omega
      ((try clear cX); have cX := ((hA2.on hbW)).cell 0; simp only [List.getElem?_cons_zero] at cX)
      have lX := (hA2.on hbW).lt
      clear hsub hhi
      go_wp2_with (first
        | (go_at_call 19; (with_reducible refine (hlen2 _ hbW).mono ?_); clear hlen2; rintro e w5 ⟨rfl, hb5⟩; replace hbW := hbW.trans (hb5.mono hbW.size); clear hb5 cX lX; ((try clear cX); have cX := ((hA2.on hbW)).cell 0; simp only [List.getElem?_cons_zero] at cX); have lX := (hA2.on hbW).lt)
        | (go_at_call 18; (with_reducible refine (hint2 _ hbW).mono ?_); clear hint2; rintro e w6 ⟨⟨u6, rfl, hI⟩, hb5⟩; replace hbW := hbW.trans (hb5.mono hbW.size); clear hb5 cX lX)
        | (go_at_call 22; (with_reducible refine (hsd _ _ hbW hI).mono ?_); clear hsd; rintro e w7 ⟨rfl, hb5⟩; replace hbW := hbW.trans (hb5.mono hbW.size); clear hb5))
      go_ret
      exact ⟨rfl, KK.trans (hbW.mono KK.size)⟩

set_option maxRecDepth 100000 in
set_option maxHeartbeats 16000000 in
theorem walk2 (v0 : Value) (l0 : List Int) (v1 : Value) (l1 : List Int) (x way : Int) (w : World) (i0 : hp.IsInts w w.heap.size v0 l0) (i1 : hp.IsInts w w.heap.size v1 l1) (bd : l0.length + l1.length ≤ 1048576)  :
    Calls Try.prog 5 #[v0, v1, .int .i64 x, .int .i64 2] w fun e w' => e = .returned (.bool true) ∧ Below w.heap.size w w' := by
  have hul := uniq_le l0
  have hul1 := uniq_le l1
  obtain ⟨K, hK⟩ : ∃ K, uniq l0 = K := ⟨_, rfl⟩
  obtain ⟨M, hM⟩ : ∃ M, uniq l1 = M := ⟨_, rfl⟩
  rw [hK] at hul
  rw [hM] at hul1
  have H1 := fun W (hW : Below w.heap.size w W) => of_as hK (i0.on hW) (by omega)
  have H2 := fun W (hW : Below w.heap.size w W) => of_as hM (i1.on hW) (by omega)
  have hlK : K.length + M.length ≤ 1048576 := by omega
  have hlu := uni_le K M
  have hlm := cho_le true K M
  have hld := cho_le false K M
  have hll := lo_le x K
  have hlh := hi_le x K
  have hlj := uni_le (lo x K) (hi x K)
  have hlj2 := uni_le (hi x K) M
  have hlj3 := lo_hi_le x K
  obtain ⟨D, hD, hDl⟩ : ∃ D, Hid (cho false K M = D) ∧ D.length ≤ 1048576 := ⟨_, rfl, by omega⟩
  obtain ⟨a0, c0, rfl, -⟩ := i0
  obtain ⟨a1, c1, rfl, -⟩ := i1
  have KK := Below.refl w.heap.size w
  clear hul hul1 hK hM bd hlu hlm hld hll hlh hlj hlj2 hlj3
  generalize decide (x ∈ K) = f at *
  go_enter Try.func5, Try.ntmps5
  go_wp2_with (first
    | (go_at_call 11; (with_reducible refine (wbted_any _).mono ?_); rintro e wa ⟨rfl, hb⟩; replace KK := st KK hb; clear hb)
    | (go_at_call 24; (with_reducible refine (H1 _ KK).mono ?_); clear H1; rintro e wb ⟨⟨q1, rfl, hS⟩, hb⟩; have kS := hp.Blk.new wb [.pointer q1] tyH; replace KK := st (st KK hb) ((Below.refl _ _).alloc (Nat.le_refl _) (.cells #[.pointer q1] tyH)); replace hS := hS.on ((Below.refl _ _).alloc (Nat.le_refl _) (.cells #[.pointer q1] tyH)); clear hb)
    | (go_at_call 24; (with_reducible refine (H2 _ KK).mono ?_); clear H2; rintro e wc ⟨⟨q2, rfl, hT⟩, hb⟩; have kT := hp.Blk.new wc [.pointer q2] tyH; replace KK := st (st KK hb) ((Below.refl _ _).alloc (Nat.le_refl _) (.cells #[.pointer q2] tyH)); replace hT := hT.on ((Below.refl _ _).alloc (Nat.le_refl _) (.cells #[.pointer q2] tyH)); replace hS := (hS.on hb).on ((Below.refl _ _).alloc (Nat.le_refl _) (.cells #[.pointer q2] tyH)); replace kS := (kS.on hb).on ((Below.refl _ _).alloc (Nat.le_refl _) (.cells #[.pointer q2] tyH)); clear hb; ((try clear cS); have cS := (kS).cell 0; simp only [List.getElem?_cons_zero] at cS); ((try clear cT); have cT := (kT).cell 0; simp only [List.getElem?_cons_zero] at cT); have lS := kS.lt; have lT := kT.lt)
    | (go_at_call 25; (with_reducible refine (set_split (x := x) hS (by omega)).mono ?_); rintro e wd ⟨⟨q3, q4, rfl, hA, hB⟩, hb⟩; have kA := (hp.Blk.new wd [.pointer q3] tyH).on ((Below.refl _ _).alloc (Nat.le_refl _) (.cells #[.pointer q4] tyH)); have kB := hp.Blk.newAt (w := wd.alloc (.cells #[.pointer q3] tyH)) (cs := [.pointer q4]) (t := tyH) (g := wd.heap.size + 1) (by simp); replace KK := st (st (st KK hb) ((Below.refl _ _).alloc (Nat.le_refl _) (.cells #[.pointer q3] tyH))) ((Below.refl _ _).alloc (Nat.le_refl _) (.cells #[.pointer q4] tyH)); replace hS := ((hS.on hb).on ((Below.refl _ _).alloc (Nat.le_refl _) (.cells #[.pointer q3] tyH))).on ((Below.refl _ _).alloc (Nat.le_refl _) (.cells #[.pointer q4] tyH)); replace hT := ((hT.on hb).on ((Below.refl _ _).alloc (Nat.le_refl _) (.cells #[.pointer q3] tyH))).on ((Below.refl _ _).alloc (Nat.le_refl _) (.cells #[.pointer q4] tyH)); replace kS := ((kS.on hb).on ((Below.refl _ _).alloc (Nat.le_refl _) (.cells #[.pointer q3] tyH))).on ((Below.refl _ _).alloc (Nat.le_refl _) (.cells #[.pointer q4] tyH)); replace kT := ((kT.on hb).on ((Below.refl _ _).alloc (Nat.le_refl _) (.cells #[.pointer q3] tyH))).on ((Below.refl _ _).alloc (Nat.le_refl _) (.cells #[.pointer q4] tyH)); replace hA := (hA.on ((Below.refl _ _).alloc (Nat.le_refl _) (.cells #[.pointer q3] tyH))).on ((Below.refl _ _).alloc (Nat.le_refl _) (.cells #[.pointer q4] tyH)); replace hB := (hB.on ((Below.refl _ _).alloc (Nat.le_refl _) (.cells #[.pointer q3] tyH))).on ((Below.refl _ _).alloc (Nat.le_refl _) (.cells #[.pointer q4] tyH)); clear hb cS cT lS lT; ((try clear cS); have cS := (kS).cell 0; simp only [List.getElem?_cons_zero] at cS); ((try clear cT); have cT := (kT).cell 0; simp only [List.getElem?_cons_zero] at cT); have lS := kS.lt; have lT := kT.lt)
    | (go_at_call 26; (with_reducible refine (set_union hS hT (by omega)).mono ?_); rintro e we ⟨⟨q5, rfl, hU⟩, hb⟩; have kU := hp.Blk.new we [.pointer q5] tyH; have hgb := (st KK hb).size; replace KK := st (st KK hb) ((Below.refl _ _).alloc (Nat.le_refl _) (.cells #[.pointer q5] tyH)); replace hU := hU.on ((Below.refl _ _).alloc (Nat.le_refl _) (.cells #[.pointer q5] tyH)); replace hS := hS.on hb; replace hT := hT.on hb; replace hA := hA.on hb; replace hB := hB.on hb; replace kS := kS.on hb; replace kT := kT.on hb; replace kA := kA.on hb; replace kB := kB.on hb; replace hS := hS.on ((Below.refl _ _).alloc (Nat.le_refl _) (.cells #[.pointer q5] tyH)); replace hT := hT.on ((Below.refl _ _).alloc (Nat.le_refl _) (.cells #[.pointer q5] tyH)); replace hA := hA.on ((Below.refl _ _).alloc (Nat.le_refl _) (.cells #[.pointer q5] tyH)); replace hB := hB.on ((Below.refl _ _).alloc (Nat.le_refl _) (.cells #[.pointer q5] tyH)); replace kS := kS.on ((Below.refl _ _).alloc (Nat.le_refl _) (.cells #[.pointer q5] tyH)); replace kT := kT.on ((Below.refl _ _).alloc (Nat.le_refl _) (.cells #[.pointer q5] tyH)); replace kA := kA.on ((Below.refl _ _).alloc (Nat.le_refl _) (.cells #[.pointer q5] tyH)); replace kB := kB.on ((Below.refl _ _).alloc (Nat.le_refl _) (.cells #[.pointer q5] tyH)); clear hb cS cT lS lT; ((try clear cS); have cS := (kS).cell 0; simp only [List.getElem?_cons_zero] at cS); ((try clear cT); have cT := (kT).cell 0; simp only [List.getElem?_cons_zero] at cT); ((try clear cA); have cA := (kA).cell 0; simp only [List.getElem?_cons_zero] at cA); ((try clear cB); have cB := (kB).cell 0; simp only [List.getElem?_cons_zero] at cB); ((try clear cU); have cU := (kU).cell 0; simp only [List.getElem?_cons_zero] at cU); have lS := kS.lt; have lT := kT.lt; have lA := kA.lt; have lB := kB.lt; have lU := kU.lt; have fU := kU.free 0)
    | (go_at_call 28; (with_reducible refine (set_diff hS hT (by omega)).mono ?_); rintro e w6 ⟨⟨q6, rfl, hV⟩, hb⟩; have kU6 := kU.on hb; replace KK := st KK hb; clear hb cS cT cA cB cU lS lT lA lB lU fU hU kU hS hT hA hB kS kT kA kB; (obtain ⟨W9, hW9, kX, hX, KK9, -⟩ := wbt.stored kU6 hgb KK hV); clear hV KK; have KK := KK9; clear KK9; (rw [hD.out] at hX); have fU6 := kU6.free 0; ((try clear cU6); have cU6 := (kU6).cell 0; simp only [List.getElem?_cons_zero] at cU6); have lU6 := kU6.lt; ((try clear cX); have cX := (kX).cell 0; simp only [List.getElem?_cons_zero] at cX); have lX := kX.lt)
    | (go_at_call 23; (with_reducible refine (set_shape hX hDl).mono ?_); rintro e w2 ⟨⟨u, t, rfl, hav, hkt, hnd⟩, hb2⟩; have hnd2 := hnd; (obtain ⟨an, cn, rfl, -⟩ := hnd2)))
  have hlt' : (shp t 0).length = D.length := by rw [shp_len, hkt]
  have hsub := sub_at (P := Wb) wb_sub (ns := shp t 0) t 0 (At.top t) hav
  have hhi := fun (t' : Tr) (o : Nat) (W : World) (hW : Below w2.heap.size w2 W) (hat : At (shp t 0) t' o) => many_any (ns := shp t 0) (by omega) t' o _ W (hnd.on hW) hat
  have hsd := fun W v (hW : Below w2.heap.size w2 W) (hv : hp.IsInts W W.heap.size v D) => shaped_any (hnd.on hW) hv hkt hDl
  have hA2 := kX.on hb2
  have hX2 := hX.on hb2
  replace KK := st KK hb2
  rw [hkt] at hsub
  simp only [Nat.zero_add] at hsub
  have hlen2 := fun W (hW : Below w2.heap.size w2 W) => len_any _ _ _ (hX2.on hW)
  have hint2 := fun W (hW : Below w2.heap.size w2 W) => ints_any (hX2.on hW) (by omega)
  obtain ⟨N, hN⟩ : ∃ N, D.length = N := ⟨_, rfl⟩
  rw [hN] at hlt' hDl hsub hlen2
  obtain ⟨ns, hns⟩ : ∃ ns, shp t 0 = ns := ⟨_, rfl⟩
  rw [hns] at hlt' hsub hhi hnd hsd
  rw [hns, hlt']
  rw [hlt'] at hhi hsd
  replace hlt' := Lib.hid hlt'
  clear hkt hns hN hb2 hav hX kX hX2
  go_loopw [17] (fun i wr => ∃ j : Nat, i = .int .i64 j ∧ j ≤ N ∧ Below w2.heap.size w2 wr) (fun i _ => N - (intOf i).toNat)
  case atStart => exact ⟨0, rfl, Nat.zero_le _, Below.refl _ _⟩
  case round =>
    rename World => W
    obtain ⟨j, rfl, hj, hbW⟩ := hrel
    by_cases hlt : j < N
    · obtain ⟨y, m, l, r, hat, hm, k1, k2, -, -⟩ := hsub j (Nat.zero_le _) hlt
      obtain ⟨ho, hnj, hal, har⟩ := hat.node
      obtain ⟨g, cap, he, hg, -, q1, q2, q3⟩ := hnd.at hnj
      cases he
      simp only at q1 q2 q3
      have hla := hal.len
      have hra := har.len
      rw [hlt'.out] at hla hra
      have h1 := fun W (hW : Below w2.heap.size w2 W) => hhi l _ W hW hal
      have h2 := fun W (hW : Below w2.heap.size w2 W) => hhi r _ W hW har
      obtain ⟨li, hli⟩ : ∃ li, idx l (j + 1) = li := ⟨_, rfl⟩
      obtain ⟨ri, hri⟩ : ∃ ri, idx r (j + 1 + (keys l).length) = ri := ⟨_, rfl⟩
      rw [hli] at q1 h1
      rw [hri] at q2 h2
      unfold wt siz at k1 k2
      unfold siz at hm
      obtain ⟨a, ha⟩ : ∃ a, (keys l).length = a := ⟨_, rfl⟩
      obtain ⟨b, hb'⟩ : ∃ b, (keys r).length = b := ⟨_, rfl⟩
      rw [ha] at h1 k1 k2 hm hla hra
      rw [hb'] at h2 k1 k2 hm hra
      have hm2 : m = (a : Int) + 1 + ((b : Int) + 1) - 1 := by rw [hm]; omega
      subst hm2
      have ha2 : a ≤ 1048576 := by omega
      have hb2 : b ≤ 1048576 := by omega
      have p1 := fun W (hW : Below w2.heap.size w2 W) => (hW.cell (p := ⟨g, j * 4 + 1, none⟩) hg).trans q1
      have p2 := fun W (hW : Below w2.heap.size w2 W) => (hW.cell (p := ⟨g, j * 4 + 2, none⟩) hg).trans q2
      have p3 := fun W (hW : Below w2.heap.size w2 W) => (hW.cell (p := ⟨g, j * 4 + 3, none⟩) hg).trans q3
      have c1 := p1 _ hbW
      have hg1 := Nat.lt_of_lt_of_le hg hbW.size
      have kb1 : ¬ (3 * ((b : Int) + 1) < (a : Int) + 1) := by omega
      have kb2 : ¬ (3 * ((a : Int) + 1) < (b : Int) + 1) := by omega
      clear hat hnj hal har hla hra hli hri ha hb' hm k1 k2 hsub hhi q1 q2 q3 hsd hint2 hlen2
      go_wp2_with (first
        | (go_at_call 30; (with_reducible refine (h1 _ hbW).mono ?_); clear h1 c1 hg1; rintro e w3 ⟨rfl, hb3⟩; replace hbW := hbW.trans (hb3.mono hbW.size); have c2 := p2 _ hbW; have hg1 := Nat.lt_of_lt_of_le hg hbW.size; clear hb3)
        | (go_at_call 30; (with_reducible refine (h2 _ hbW).mono ?_); clear h2 c2 hg1; rintro e w4 ⟨rfl, hb3⟩; replace hbW := hbW.trans (hb3.mono hbW.size); have c3 := p3 _ hbW; have hg1 := Nat.lt_of_lt_of_le hg hbW.size; clear hb3))
      go_roundw
      case rel => exact ⟨j + 1, by go_num, by omega, hbW⟩
      case measure => simp [intOf]; omega
    · obtain rfl : j = N := by omega
      ((try clear cX); have cX := ((hA2.on hbW)).cell 0; simp only [List.getElem?_cons_zero] at cX)
      have lX := (hA2.on hbW).lt
      clear hsub hhi
      go_wp2_with (first
        | (go_at_call 19; (with_reducible refine (hlen2 _ hbW).mono ?_); clear hlen2; rintro e w5 ⟨rfl, hb5⟩; replace hbW := hbW.trans (hb5.mono hbW.size); clear hb5 cX lX; ((try clear cX); have cX := ((hA2.on hbW)).cell 0; simp only [List.getElem?_cons_zero] at cX); have lX := (hA2.on hbW).lt)
        | (go_at_call 18; (with_reducible refine (hint2 _ hbW).mono ?_); clear hint2; rintro e w6 ⟨⟨u6, rfl, hI⟩, hb5⟩; replace hbW := hbW.trans (hb5.mono hbW.size); clear hb5 cX lX)
        | (go_at_call 22; (with_reducible refine (hsd _ _ hbW hI).mono ?_); clear hsd; rintro e w7 ⟨rfl, hb5⟩; replace hbW := hbW.trans (hb5.mono hbW.size); clear hb5))
      go_ret
      exact ⟨rfl, KK.trans (hbW.mono KK.size)⟩

set_option maxRecDepth 100000 in
set_option maxHeartbeats 16000000 in
theorem walk3 (v0 : Value) (l0 : List Int) (v1 : Value) (l1 : List Int) (x way : Int) (w : World) (i0 : hp.IsInts w w.heap.size v0 l0) (i1 : hp.IsInts w w.heap.size v1 l1) (bd : l0.length + l1.length ≤ 1048576)  :
    Calls Try.prog 5 #[v0, v1, .int .i64 x, .int .i64 3] w fun e w' => e = .returned (.bool true) ∧ Below w.heap.size w w' := by
  have hul := uniq_le l0
  have hul1 := uniq_le l1
  obtain ⟨K, hK⟩ : ∃ K, uniq l0 = K := ⟨_, rfl⟩
  obtain ⟨M, hM⟩ : ∃ M, uniq l1 = M := ⟨_, rfl⟩
  rw [hK] at hul
  rw [hM] at hul1
  have H1 := fun W (hW : Below w.heap.size w W) => of_as hK (i0.on hW) (by omega)
  have H2 := fun W (hW : Below w.heap.size w W) => of_as hM (i1.on hW) (by omega)
  have hlK : K.length + M.length ≤ 1048576 := by omega
  have hlu := uni_le K M
  have hlm := cho_le true K M
  have hld := cho_le false K M
  have hll := lo_le x K
  have hlh := hi_le x K
  have hlj := uni_le (lo x K) (hi x K)
  have hlj2 := uni_le (hi x K) M
  have hlj3 := lo_hi_le x K
  obtain ⟨D, hD, hDl⟩ : ∃ D, Hid (uni (lo x K) (hi x K) = D) ∧ D.length ≤ 1048576 := ⟨_, rfl, by omega⟩
  obtain ⟨a0, c0, rfl, -⟩ := i0
  obtain ⟨a1, c1, rfl, -⟩ := i1
  have KK := Below.refl w.heap.size w
  clear hul hul1 hK hM bd hlu hlm hld hll hlh hlj hlj2 hlj3
  generalize decide (x ∈ K) = f at *
  go_enter Try.func5, Try.ntmps5
  go_wp2_with (first
    | (go_at_call 11; (with_reducible refine (wbted_any _).mono ?_); rintro e wa ⟨rfl, hb⟩; replace KK := st KK hb; clear hb)
    | (go_at_call 24; (with_reducible refine (H1 _ KK).mono ?_); clear H1; rintro e wb ⟨⟨q1, rfl, hS⟩, hb⟩; have kS := hp.Blk.new wb [.pointer q1] tyH; replace KK := st (st KK hb) ((Below.refl _ _).alloc (Nat.le_refl _) (.cells #[.pointer q1] tyH)); replace hS := hS.on ((Below.refl _ _).alloc (Nat.le_refl _) (.cells #[.pointer q1] tyH)); clear hb)
    | (go_at_call 24; (with_reducible refine (H2 _ KK).mono ?_); clear H2; rintro e wc ⟨⟨q2, rfl, hT⟩, hb⟩; have kT := hp.Blk.new wc [.pointer q2] tyH; replace KK := st (st KK hb) ((Below.refl _ _).alloc (Nat.le_refl _) (.cells #[.pointer q2] tyH)); replace hT := hT.on ((Below.refl _ _).alloc (Nat.le_refl _) (.cells #[.pointer q2] tyH)); replace hS := (hS.on hb).on ((Below.refl _ _).alloc (Nat.le_refl _) (.cells #[.pointer q2] tyH)); replace kS := (kS.on hb).on ((Below.refl _ _).alloc (Nat.le_refl _) (.cells #[.pointer q2] tyH)); clear hb; ((try clear cS); have cS := (kS).cell 0; simp only [List.getElem?_cons_zero] at cS); ((try clear cT); have cT := (kT).cell 0; simp only [List.getElem?_cons_zero] at cT); have lS := kS.lt; have lT := kT.lt)
    | (go_at_call 25; (with_reducible refine (set_split (x := x) hS (by omega)).mono ?_); rintro e wd ⟨⟨q3, q4, rfl, hA, hB⟩, hb⟩; have kA := (hp.Blk.new wd [.pointer q3] tyH).on ((Below.refl _ _).alloc (Nat.le_refl _) (.cells #[.pointer q4] tyH)); have kB := hp.Blk.newAt (w := wd.alloc (.cells #[.pointer q3] tyH)) (cs := [.pointer q4]) (t := tyH) (g := wd.heap.size + 1) (by simp); replace KK := st (st (st KK hb) ((Below.refl _ _).alloc (Nat.le_refl _) (.cells #[.pointer q3] tyH))) ((Below.refl _ _).alloc (Nat.le_refl _) (.cells #[.pointer q4] tyH)); replace hS := ((hS.on hb).on ((Below.refl _ _).alloc (Nat.le_refl _) (.cells #[.pointer q3] tyH))).on ((Below.refl _ _).alloc (Nat.le_refl _) (.cells #[.pointer q4] tyH)); replace hT := ((hT.on hb).on ((Below.refl _ _).alloc (Nat.le_refl _) (.cells #[.pointer q3] tyH))).on ((Below.refl _ _).alloc (Nat.le_refl _) (.cells #[.pointer q4] tyH)); replace kS := ((kS.on hb).on ((Below.refl _ _).alloc (Nat.le_refl _) (.cells #[.pointer q3] tyH))).on ((Below.refl _ _).alloc (Nat.le_refl _) (.cells #[.pointer q4] tyH)); replace kT := ((kT.on hb).on ((Below.refl _ _).alloc (Nat.le_refl _) (.cells #[.pointer q3] tyH))).on ((Below.refl _ _).alloc (Nat.le_refl _) (.cells #[.pointer q4] tyH)); replace hA := (hA.on ((Below.refl _ _).alloc (Nat.le_refl _) (.cells #[.pointer q3] tyH))).on ((Below.refl _ _).alloc (Nat.le_refl _) (.cells #[.pointer q4] tyH)); replace hB := (hB.on ((Below.refl _ _).alloc (Nat.le_refl _) (.cells #[.pointer q3] tyH))).on ((Below.refl _ _).alloc (Nat.le_refl _) (.cells #[.pointer q4] tyH)); clear hb cS cT lS lT; ((try clear cS); have cS := (kS).cell 0; simp only [List.getElem?_cons_zero] at cS); ((try clear cT); have cT := (kT).cell 0; simp only [List.getElem?_cons_zero] at cT); have lS := kS.lt; have lT := kT.lt)
    | (go_at_call 26; (with_reducible refine (set_union hS hT (by omega)).mono ?_); rintro e we ⟨⟨q5, rfl, hU⟩, hb⟩; have kU := hp.Blk.new we [.pointer q5] tyH; have hgb := (st KK hb).size; replace KK := st (st KK hb) ((Below.refl _ _).alloc (Nat.le_refl _) (.cells #[.pointer q5] tyH)); replace hU := hU.on ((Below.refl _ _).alloc (Nat.le_refl _) (.cells #[.pointer q5] tyH)); replace hS := hS.on hb; replace hT := hT.on hb; replace hA := hA.on hb; replace hB := hB.on hb; replace kS := kS.on hb; replace kT := kT.on hb; replace kA := kA.on hb; replace kB := kB.on hb; replace hS := hS.on ((Below.refl _ _).alloc (Nat.le_refl _) (.cells #[.pointer q5] tyH)); replace hT := hT.on ((Below.refl _ _).alloc (Nat.le_refl _) (.cells #[.pointer q5] tyH)); replace hA := hA.on ((Below.refl _ _).alloc (Nat.le_refl _) (.cells #[.pointer q5] tyH)); replace hB := hB.on ((Below.refl _ _).alloc (Nat.le_refl _) (.cells #[.pointer q5] tyH)); replace kS := kS.on ((Below.refl _ _).alloc (Nat.le_refl _) (.cells #[.pointer q5] tyH)); replace kT := kT.on ((Below.refl _ _).alloc (Nat.le_refl _) (.cells #[.pointer q5] tyH)); replace kA := kA.on ((Below.refl _ _).alloc (Nat.le_refl _) (.cells #[.pointer q5] tyH)); replace kB := kB.on ((Below.refl _ _).alloc (Nat.le_refl _) (.cells #[.pointer q5] tyH)); clear hb cS cT lS lT; ((try clear cS); have cS := (kS).cell 0; simp only [List.getElem?_cons_zero] at cS); ((try clear cT); have cT := (kT).cell 0; simp only [List.getElem?_cons_zero] at cT); ((try clear cA); have cA := (kA).cell 0; simp only [List.getElem?_cons_zero] at cA); ((try clear cB); have cB := (kB).cell 0; simp only [List.getElem?_cons_zero] at cB); ((try clear cU); have cU := (kU).cell 0; simp only [List.getElem?_cons_zero] at cU); have lS := kS.lt; have lT := kT.lt; have lA := kA.lt; have lB := kB.lt; have lU := kU.lt; have fU := kU.free 0)
    | (go_at_call 29; (with_reducible refine (set_join hA hB (by have := lo_hi_le x K; omega)).mono ?_); rintro e w6 ⟨⟨q6, rfl, hV⟩, hb⟩; have kU6 := kU.on hb; replace KK := st KK hb; clear hb cS cT cA cB cU lS lT lA lB lU fU hU kU hS hT hA hB kS kT kA kB; (obtain ⟨W9, hW9, kX, hX, KK9, -⟩ := wbt.stored kU6 hgb KK hV); clear hV KK; have KK := KK9; clear KK9; (rw [hD.out] at hX); have fU6 := kU6.free 0; ((try clear cU6); have cU6 := (kU6).cell 0; simp only [List.getElem?_cons_zero] at cU6); have lU6 := kU6.lt; ((try clear cX); have cX := (kX).cell 0; simp only [List.getElem?_cons_zero] at cX); have lX := kX.lt)
    | (go_at_call 23; (with_reducible refine (set_shape hX hDl).mono ?_); rintro e w2 ⟨⟨u, t, rfl, hav, hkt, hnd⟩, hb2⟩; have hnd2 := hnd; (obtain ⟨an, cn, rfl, -⟩ := hnd2)))
  have hlt' : (shp t 0).length = D.length := by rw [shp_len, hkt]
  have hsub := sub_at (P := Wb) wb_sub (ns := shp t 0) t 0 (At.top t) hav
  have hhi := fun (t' : Tr) (o : Nat) (W : World) (hW : Below w2.heap.size w2 W) (hat : At (shp t 0) t' o) => many_any (ns := shp t 0) (by omega) t' o _ W (hnd.on hW) hat
  have hsd := fun W v (hW : Below w2.heap.size w2 W) (hv : hp.IsInts W W.heap.size v D) => shaped_any (hnd.on hW) hv hkt hDl
  have hA2 := kX.on hb2
  have hX2 := hX.on hb2
  replace KK := st KK hb2
  rw [hkt] at hsub
  simp only [Nat.zero_add] at hsub
  have hlen2 := fun W (hW : Below w2.heap.size w2 W) => len_any _ _ _ (hX2.on hW)
  have hint2 := fun W (hW : Below w2.heap.size w2 W) => ints_any (hX2.on hW) (by omega)
  obtain ⟨N, hN⟩ : ∃ N, D.length = N := ⟨_, rfl⟩
  rw [hN] at hlt' hDl hsub hlen2
  obtain ⟨ns, hns⟩ : ∃ ns, shp t 0 = ns := ⟨_, rfl⟩
  rw [hns] at hlt' hsub hhi hnd hsd
  rw [hns, hlt']
  rw [hlt'] at hhi hsd
  replace hlt' := Lib.hid hlt'
  clear hkt hns hN hb2 hav hX kX hX2
  go_loopw [17] (fun i wr => ∃ j : Nat, i = .int .i64 j ∧ j ≤ N ∧ Below w2.heap.size w2 wr) (fun i _ => N - (intOf i).toNat)
  case atStart => exact ⟨0, rfl, Nat.zero_le _, Below.refl _ _⟩
  case round =>
    rename World => W
    obtain ⟨j, rfl, hj, hbW⟩ := hrel
    by_cases hlt : j < N
    · obtain ⟨y, m, l, r, hat, hm, k1, k2, -, -⟩ := hsub j (Nat.zero_le _) hlt
      obtain ⟨ho, hnj, hal, har⟩ := hat.node
      obtain ⟨g, cap, he, hg, -, q1, q2, q3⟩ := hnd.at hnj
      cases he
      simp only at q1 q2 q3
      have hla := hal.len
      have hra := har.len
      rw [hlt'.out] at hla hra
      have h1 := fun W (hW : Below w2.heap.size w2 W) => hhi l _ W hW hal
      have h2 := fun W (hW : Below w2.heap.size w2 W) => hhi r _ W hW har
      obtain ⟨li, hli⟩ : ∃ li, idx l (j + 1) = li := ⟨_, rfl⟩
      obtain ⟨ri, hri⟩ : ∃ ri, idx r (j + 1 + (keys l).length) = ri := ⟨_, rfl⟩
      rw [hli] at q1 h1
      rw [hri] at q2 h2
      unfold wt siz at k1 k2
      unfold siz at hm
      obtain ⟨a, ha⟩ : ∃ a, (keys l).length = a := ⟨_, rfl⟩
      obtain ⟨b, hb'⟩ : ∃ b, (keys r).length = b := ⟨_, rfl⟩
      rw [ha] at h1 k1 k2 hm hla hra
      rw [hb'] at h2 k1 k2 hm hra
      have hm2 : m = (a : Int) + 1 + ((b : Int) + 1) - 1 := by rw [hm]; omega
      subst hm2
      have ha2 : a ≤ 1048576 := by omega
      have hb2 : b ≤ 1048576 := by omega
      have p1 := fun W (hW : Below w2.heap.size w2 W) => (hW.cell (p := ⟨g, j * 4 + 1, none⟩) hg).trans q1
      have p2 := fun W (hW : Below w2.heap.size w2 W) => (hW.cell (p := ⟨g, j * 4 + 2, none⟩) hg).trans q2
      have p3 := fun W (hW : Below w2.heap.size w2 W) => (hW.cell (p := ⟨g, j * 4 + 3, none⟩) hg).trans q3
      have c1 := p1 _ hbW
      have hg1 := Nat.lt_of_lt_of_le hg hbW.size
      have kb1 : ¬ (3 * ((b : Int) + 1) < (a : Int) + 1) := by omega
      have kb2 : ¬ (3 * ((a : Int) + 1) < (b : Int) + 1) := by omega
      clear hat hnj hal har hla hra hli hri ha hb' hm k1 k2 hsub hhi q1 q2 q3 hsd hint2 hlen2
      go_wp2_with (first
        | (go_at_call 30; (with_reducible refine (h1 _ hbW).mono ?_); clear h1 c1 hg1; rintro e w3 ⟨rfl, hb3⟩; replace hbW := hbW.trans (hb3.mono hbW.size); have c2 := p2 _ hbW; have hg1 := Nat.lt_of_lt_of_le hg hbW.size; clear hb3)
        | (go_at_call 30; (with_reducible refine (h2 _ hbW).mono ?_); clear h2 c2 hg1; rintro e w4 ⟨rfl, hb3⟩; replace hbW := hbW.trans (hb3.mono hbW.size); have c3 := p3 _ hbW; have hg1 := Nat.lt_of_lt_of_le hg hbW.size; clear hb3))
      go_roundw
      case rel => exact ⟨j + 1, by go_num, by omega, hbW⟩
      case measure => simp [intOf]; omega
    · obtain rfl : j = N := by omega
      ((try clear cX); have cX := ((hA2.on hbW)).cell 0; simp only [List.getElem?_cons_zero] at cX)
      have lX := (hA2.on hbW).lt
      clear hsub hhi
      go_wp2_with (first
        | (go_at_call 19; (with_reducible refine (hlen2 _ hbW).mono ?_); clear hlen2; rintro e w5 ⟨rfl, hb5⟩; replace hbW := hbW.trans (hb5.mono hbW.size); clear hb5 cX lX; ((try clear cX); have cX := ((hA2.on hbW)).cell 0; simp only [List.getElem?_cons_zero] at cX); have lX := (hA2.on hbW).lt)
        | (go_at_call 18; (with_reducible refine (hint2 _ hbW).mono ?_); clear hint2; rintro e w6 ⟨⟨u6, rfl, hI⟩, hb5⟩; replace hbW := hbW.trans (hb5.mono hbW.size); clear hb5 cX lX)
        | (go_at_call 22; (with_reducible refine (hsd _ _ hbW hI).mono ?_); clear hsd; rintro e w7 ⟨rfl, hb5⟩; replace hbW := hbW.trans (hb5.mono hbW.size); clear hb5))
      go_ret
      exact ⟨rfl, KK.trans (hbW.mono KK.size)⟩

set_option maxRecDepth 100000 in
set_option maxHeartbeats 16000000 in
theorem walk4 (v0 : Value) (l0 : List Int) (v1 : Value) (l1 : List Int) (x way : Int) (w : World) (i0 : hp.IsInts w w.heap.size v0 l0) (i1 : hp.IsInts w w.heap.size v1 l1) (bd : l0.length + l1.length ≤ 1048576)  :
    Calls Try.prog 5 #[v0, v1, .int .i64 x, .int .i64 4] w fun e w' => e = .returned (.bool true) ∧ Below w.heap.size w w' := by
  have hul := uniq_le l0
  have hul1 := uniq_le l1
  obtain ⟨K, hK⟩ : ∃ K, uniq l0 = K := ⟨_, rfl⟩
  obtain ⟨M, hM⟩ : ∃ M, uniq l1 = M := ⟨_, rfl⟩
  rw [hK] at hul
  rw [hM] at hul1
  have H1 := fun W (hW : Below w.heap.size w W) => of_as hK (i0.on hW) (by omega)
  have H2 := fun W (hW : Below w.heap.size w W) => of_as hM (i1.on hW) (by omega)
  have hlK : K.length + M.length ≤ 1048576 := by omega
  have hlu := uni_le K M
  have hlm := cho_le true K M
  have hld := cho_le false K M
  have hll := lo_le x K
  have hlh := hi_le x K
  have hlj := uni_le (lo x K) (hi x K)
  have hlj2 := uni_le (hi x K) M
  have hlj3 := lo_hi_le x K
  obtain ⟨D, hD, hDl⟩ : ∃ D, Hid (lo x K = D) ∧ D.length ≤ 1048576 := ⟨_, rfl, by omega⟩
  obtain ⟨a0, c0, rfl, -⟩ := i0
  obtain ⟨a1, c1, rfl, -⟩ := i1
  have KK := Below.refl w.heap.size w
  clear hul hul1 hK hM bd hlu hlm hld hll hlh hlj hlj2 hlj3
  generalize decide (x ∈ K) = f at *
  go_enter Try.func5, Try.ntmps5
  go_wp2_with (first
    | (go_at_call 11; (with_reducible refine (wbted_any _).mono ?_); rintro e wa ⟨rfl, hb⟩; replace KK := st KK hb; clear hb)
    | (go_at_call 24; (with_reducible refine (H1 _ KK).mono ?_); clear H1; rintro e wb ⟨⟨q1, rfl, hS⟩, hb⟩; have kS := hp.Blk.new wb [.pointer q1] tyH; replace KK := st (st KK hb) ((Below.refl _ _).alloc (Nat.le_refl _) (.cells #[.pointer q1] tyH)); replace hS := hS.on ((Below.refl _ _).alloc (Nat.le_refl _) (.cells #[.pointer q1] tyH)); clear hb)
    | (go_at_call 24; (with_reducible refine (H2 _ KK).mono ?_); clear H2; rintro e wc ⟨⟨q2, rfl, hT⟩, hb⟩; have kT := hp.Blk.new wc [.pointer q2] tyH; replace KK := st (st KK hb) ((Below.refl _ _).alloc (Nat.le_refl _) (.cells #[.pointer q2] tyH)); replace hT := hT.on ((Below.refl _ _).alloc (Nat.le_refl _) (.cells #[.pointer q2] tyH)); replace hS := (hS.on hb).on ((Below.refl _ _).alloc (Nat.le_refl _) (.cells #[.pointer q2] tyH)); replace kS := (kS.on hb).on ((Below.refl _ _).alloc (Nat.le_refl _) (.cells #[.pointer q2] tyH)); clear hb; ((try clear cS); have cS := (kS).cell 0; simp only [List.getElem?_cons_zero] at cS); ((try clear cT); have cT := (kT).cell 0; simp only [List.getElem?_cons_zero] at cT); have lS := kS.lt; have lT := kT.lt)
    | (go_at_call 25; (with_reducible refine (set_split (x := x) hS (by omega)).mono ?_); rintro e wd ⟨⟨q3, q4, rfl, hA, hB⟩, hb⟩; have kA := (hp.Blk.new wd [.pointer q3] tyH).on ((Below.refl _ _).alloc (Nat.le_refl _) (.cells #[.pointer q4] tyH)); have kB := hp.Blk.newAt (w := wd.alloc (.cells #[.pointer q3] tyH)) (cs := [.pointer q4]) (t := tyH) (g := wd.heap.size + 1) (by simp); replace KK := st (st (st KK hb) ((Below.refl _ _).alloc (Nat.le_refl _) (.cells #[.pointer q3] tyH))) ((Below.refl _ _).alloc (Nat.le_refl _) (.cells #[.pointer q4] tyH)); replace hS := ((hS.on hb).on ((Below.refl _ _).alloc (Nat.le_refl _) (.cells #[.pointer q3] tyH))).on ((Below.refl _ _).alloc (Nat.le_refl _) (.cells #[.pointer q4] tyH)); replace hT := ((hT.on hb).on ((Below.refl _ _).alloc (Nat.le_refl _) (.cells #[.pointer q3] tyH))).on ((Below.refl _ _).alloc (Nat.le_refl _) (.cells #[.pointer q4] tyH)); replace kS := ((kS.on hb).on ((Below.refl _ _).alloc (Nat.le_refl _) (.cells #[.pointer q3] tyH))).on ((Below.refl _ _).alloc (Nat.le_refl _) (.cells #[.pointer q4] tyH)); replace kT := ((kT.on hb).on ((Below.refl _ _).alloc (Nat.le_refl _) (.cells #[.pointer q3] tyH))).on ((Below.refl _ _).alloc (Nat.le_refl _) (.cells #[.pointer q4] tyH)); replace hA := (hA.on ((Below.refl _ _).alloc (Nat.le_refl _) (.cells #[.pointer q3] tyH))).on ((Below.refl _ _).alloc (Nat.le_refl _) (.cells #[.pointer q4] tyH)); replace hB := (hB.on ((Below.refl _ _).alloc (Nat.le_refl _) (.cells #[.pointer q3] tyH))).on ((Below.refl _ _).alloc (Nat.le_refl _) (.cells #[.pointer q4] tyH)); clear hb cS cT lS lT; ((try clear cS); have cS := (kS).cell 0; simp only [List.getElem?_cons_zero] at cS); ((try clear cT); have cT := (kT).cell 0; simp only [List.getElem?_cons_zero] at cT); have lS := kS.lt; have lT := kT.lt)
    | (go_at_call 26; (with_reducible refine (set_union hS hT (by omega)).mono ?_); rintro e we ⟨⟨q5, rfl, hU⟩, hb⟩; have kU := hp.Blk.new we [.pointer q5] tyH; have hgb := (st KK hb).size; replace KK := st (st KK hb) ((Below.refl _ _).alloc (Nat.le_refl _) (.cells #[.pointer q5] tyH)); replace hU := hU.on ((Below.refl _ _).alloc (Nat.le_refl _) (.cells #[.pointer q5] tyH)); replace hS := hS.on hb; replace hT := hT.on hb; replace hA := hA.on hb; replace hB := hB.on hb; replace kS := kS.on hb; replace kT := kT.on hb; replace kA := kA.on hb; replace kB := kB.on hb; replace hS := hS.on ((Below.refl _ _).alloc (Nat.le_refl _) (.cells #[.pointer q5] tyH)); replace hT := hT.on ((Below.refl _ _).alloc (Nat.le_refl _) (.cells #[.pointer q5] tyH)); replace hA := hA.on ((Below.refl _ _).alloc (Nat.le_refl _) (.cells #[.pointer q5] tyH)); replace hB := hB.on ((Below.refl _ _).alloc (Nat.le_refl _) (.cells #[.pointer q5] tyH)); replace kS := kS.on ((Below.refl _ _).alloc (Nat.le_refl _) (.cells #[.pointer q5] tyH)); replace kT := kT.on ((Below.refl _ _).alloc (Nat.le_refl _) (.cells #[.pointer q5] tyH)); replace kA := kA.on ((Below.refl _ _).alloc (Nat.le_refl _) (.cells #[.pointer q5] tyH)); replace kB := kB.on ((Below.refl _ _).alloc (Nat.le_refl _) (.cells #[.pointer q5] tyH)); clear hb cS cT lS lT; (obtain ⟨W9, hW9, kX, hX, KK9, -⟩ := wbt.stored kU hgb KK hA); clear KK; have KK := KK9; clear KK9; (rw [hD.out] at hX); ((try clear cA); have cA := (kA).cell 0; simp only [List.getElem?_cons_zero] at cA); ((try clear cU); have cU := (kU).cell 0; simp only [List.getElem?_cons_zero] at cU); have lA := kA.lt; have lU := kU.lt; have fU := kU.free 0; ((try clear cX); have cX := (kX).cell 0; simp only [List.getElem?_cons_zero] at cX); have lX := kX.lt; clear hU kU hS hT hA hB kS kT kA kB)
    | (go_at_call 23; (with_reducible refine (set_shape hX hDl).mono ?_); rintro e w2 ⟨⟨u, t, rfl, hav, hkt, hnd⟩, hb2⟩; have hnd2 := hnd; (obtain ⟨an, cn, rfl, -⟩ := hnd2)))
  have hlt' : (shp t 0).length = D.length := by rw [shp_len, hkt]
  have hsub := sub_at (P := Wb) wb_sub (ns := shp t 0) t 0 (At.top t) hav
  have hhi := fun (t' : Tr) (o : Nat) (W : World) (hW : Below w2.heap.size w2 W) (hat : At (shp t 0) t' o) => many_any (ns := shp t 0) (by omega) t' o _ W (hnd.on hW) hat
  have hsd := fun W v (hW : Below w2.heap.size w2 W) (hv : hp.IsInts W W.heap.size v D) => shaped_any (hnd.on hW) hv hkt hDl
  have hA2 := kX.on hb2
  have hX2 := hX.on hb2
  replace KK := st KK hb2
  rw [hkt] at hsub
  simp only [Nat.zero_add] at hsub
  have hlen2 := fun W (hW : Below w2.heap.size w2 W) => len_any _ _ _ (hX2.on hW)
  have hint2 := fun W (hW : Below w2.heap.size w2 W) => ints_any (hX2.on hW) (by omega)
  obtain ⟨N, hN⟩ : ∃ N, D.length = N := ⟨_, rfl⟩
  rw [hN] at hlt' hDl hsub hlen2
  obtain ⟨ns, hns⟩ : ∃ ns, shp t 0 = ns := ⟨_, rfl⟩
  rw [hns] at hlt' hsub hhi hnd hsd
  rw [hns, hlt']
  rw [hlt'] at hhi hsd
  replace hlt' := Lib.hid hlt'
  clear hkt hns hN hb2 hav hX kX hX2
  go_loopw [17] (fun i wr => ∃ j : Nat, i = .int .i64 j ∧ j ≤ N ∧ Below w2.heap.size w2 wr) (fun i _ => N - (intOf i).toNat)
  case atStart => exact ⟨0, rfl, Nat.zero_le _, Below.refl _ _⟩
  case round =>
    rename World => W
    obtain ⟨j, rfl, hj, hbW⟩ := hrel
    by_cases hlt : j < N
    · obtain ⟨y, m, l, r, hat, hm, k1, k2, -, -⟩ := hsub j (Nat.zero_le _) hlt
      obtain ⟨ho, hnj, hal, har⟩ := hat.node
      obtain ⟨g, cap, he, hg, -, q1, q2, q3⟩ := hnd.at hnj
      cases he
      simp only at q1 q2 q3
      have hla := hal.len
      have hra := har.len
      rw [hlt'.out] at hla hra
      have h1 := fun W (hW : Below w2.heap.size w2 W) => hhi l _ W hW hal
      have h2 := fun W (hW : Below w2.heap.size w2 W) => hhi r _ W hW har
      obtain ⟨li, hli⟩ : ∃ li, idx l (j + 1) = li := ⟨_, rfl⟩
      obtain ⟨ri, hri⟩ : ∃ ri, idx r (j + 1 + (keys l).length) = ri := ⟨_, rfl⟩
      rw [hli] at q1 h1
      rw [hri] at q2 h2
      unfold wt siz at k1 k2
      unfold siz at hm
      obtain ⟨a, ha⟩ : ∃ a, (keys l).length = a := ⟨_, rfl⟩
      obtain ⟨b, hb'⟩ : ∃ b, (keys r).length = b := ⟨_, rfl⟩
      rw [ha] at h1 k1 k2 hm hla hra
      rw [hb'] at h2 k1 k2 hm hra
      have hm2 : m = (a : Int) + 1 + ((b : Int) + 1) - 1 := by rw [hm]; omega
      subst hm2
      have ha2 : a ≤ 1048576 := by omega
      have hb2 : b ≤ 1048576 := by omega
      have p1 := fun W (hW : Below w2.heap.size w2 W) => (hW.cell (p := ⟨g, j * 4 + 1, none⟩) hg).trans q1
      have p2 := fun W (hW : Below w2.heap.size w2 W) => (hW.cell (p := ⟨g, j * 4 + 2, none⟩) hg).trans q2
      have p3 := fun W (hW : Below w2.heap.size w2 W) => (hW.cell (p := ⟨g, j * 4 + 3, none⟩) hg).trans q3
      have c1 := p1 _ hbW
      have hg1 := Nat.lt_of_lt_of_le hg hbW.size
      have kb1 : ¬ (3 * ((b : Int) + 1) < (a : Int) + 1) := by omega
      have kb2 : ¬ (3 * ((a : Int) + 1) < (b : Int) + 1) := by omega
      clear hat hnj hal har hla hra hli hri ha hb' hm k1 k2 hsub hhi q1 q2 q3 hsd hint2 hlen2
      go_wp2_with (first
        | (go_at_call 30; (with_reducible refine (h1 _ hbW).mono ?_); clear h1 c1 hg1; rintro e w3 ⟨rfl, hb3⟩; replace hbW := hbW.trans (hb3.mono hbW.size); have c2 := p2 _ hbW; have hg1 := Nat.lt_of_lt_of_le hg hbW.size; clear hb3)
        | (go_at_call 30; (with_reducible refine (h2 _ hbW).mono ?_); clear h2 c2 hg1; rintro e w4 ⟨rfl, hb3⟩; replace hbW := hbW.trans (hb3.mono hbW.size); have c3 := p3 _ hbW; have hg1 := Nat.lt_of_lt_of_le hg hbW.size; clear hb3))
      go_roundw
      case rel => exact ⟨j + 1, by go_num, by omega, hbW⟩
      case measure => simp [intOf]; omega
    · obtain rfl : j = N := by omega
      ((try clear cX); have cX := ((hA2.on hbW)).cell 0; simp only [List.getElem?_cons_zero] at cX)
      have lX := (hA2.on hbW).lt
      clear hsub hhi
      go_wp2_with (first
        | (go_at_call 19; (with_reducible refine (hlen2 _ hbW).mono ?_); clear hlen2; rintro e w5 ⟨rfl, hb5⟩; replace hbW := hbW.trans (hb5.mono hbW.size); clear hb5 cX lX; ((try clear cX); have cX := ((hA2.on hbW)).cell 0; simp only [List.getElem?_cons_zero] at cX); have lX := (hA2.on hbW).lt)
        | (go_at_call 18; (with_reducible refine (hint2 _ hbW).mono ?_); clear hint2; rintro e w6 ⟨⟨u6, rfl, hI⟩, hb5⟩; replace hbW := hbW.trans (hb5.mono hbW.size); clear hb5 cX lX)
        | (go_at_call 22; (with_reducible refine (hsd _ _ hbW hI).mono ?_); clear hsd; rintro e w7 ⟨rfl, hb5⟩; replace hbW := hbW.trans (hb5.mono hbW.size); clear hb5))
      go_ret
      exact ⟨rfl, KK.trans (hbW.mono KK.size)⟩

set_option maxRecDepth 100000 in
set_option maxHeartbeats 16000000 in
theorem walk5 (v0 : Value) (l0 : List Int) (v1 : Value) (l1 : List Int) (x way : Int) (w : World) (i0 : hp.IsInts w w.heap.size v0 l0) (i1 : hp.IsInts w w.heap.size v1 l1) (bd : l0.length + l1.length ≤ 1048576)  :
    Calls Try.prog 5 #[v0, v1, .int .i64 x, .int .i64 5] w fun e w' => e = .returned (.bool true) ∧ Below w.heap.size w w' := by
  have hul := uniq_le l0
  have hul1 := uniq_le l1
  obtain ⟨K, hK⟩ : ∃ K, uniq l0 = K := ⟨_, rfl⟩
  obtain ⟨M, hM⟩ : ∃ M, uniq l1 = M := ⟨_, rfl⟩
  rw [hK] at hul
  rw [hM] at hul1
  have H1 := fun W (hW : Below w.heap.size w W) => of_as hK (i0.on hW) (by omega)
  have H2 := fun W (hW : Below w.heap.size w W) => of_as hM (i1.on hW) (by omega)
  have hlK : K.length + M.length ≤ 1048576 := by omega
  have hlu := uni_le K M
  have hlm := cho_le true K M
  have hld := cho_le false K M
  have hll := lo_le x K
  have hlh := hi_le x K
  have hlj := uni_le (lo x K) (hi x K)
  have hlj2 := uni_le (hi x K) M
  have hlj3 := lo_hi_le x K
  obtain ⟨D, hD, hDl⟩ : ∃ D, Hid (uni (hi x K) M = D) ∧ D.length ≤ 1048576 := ⟨_, rfl, by omega⟩
  obtain ⟨a0, c0, rfl, -⟩ := i0
  obtain ⟨a1, c1, rfl, -⟩ := i1
  have KK := Below.refl w.heap.size w
  clear hul hul1 hK hM bd hlu hlm hld hll hlh hlj hlj2 hlj3
  generalize decide (x ∈ K) = f at *
  go_enter Try.func5, Try.ntmps5
  go_wp2_with (first
    | (go_at_call 11; (with_reducible refine (wbted_any _).mono ?_); rintro e wa ⟨rfl, hb⟩; replace KK := st KK hb; clear hb)
    | (go_at_call 24; (with_reducible refine (H1 _ KK).mono ?_); clear H1; rintro e wb ⟨⟨q1, rfl, hS⟩, hb⟩; have kS := hp.Blk.new wb [.pointer q1] tyH; replace KK := st (st KK hb) ((Below.refl _ _).alloc (Nat.le_refl _) (.cells #[.pointer q1] tyH)); replace hS := hS.on ((Below.refl _ _).alloc (Nat.le_refl _) (.cells #[.pointer q1] tyH)); clear hb)
    | (go_at_call 24; (with_reducible refine (H2 _ KK).mono ?_); clear H2; rintro e wc ⟨⟨q2, rfl, hT⟩, hb⟩; have kT := hp.Blk.new wc [.pointer q2] tyH; replace KK := st (st KK hb) ((Below.refl _ _).alloc (Nat.le_refl _) (.cells #[.pointer q2] tyH)); replace hT := hT.on ((Below.refl _ _).alloc (Nat.le_refl _) (.cells #[.pointer q2] tyH)); replace hS := (hS.on hb).on ((Below.refl _ _).alloc (Nat.le_refl _) (.cells #[.pointer q2] tyH)); replace kS := (kS.on hb).on ((Below.refl _ _).alloc (Nat.le_refl _) (.cells #[.pointer q2] tyH)); clear hb; ((try clear cS); have cS := (kS).cell 0; simp only [List.getElem?_cons_zero] at cS); ((try clear cT); have cT := (kT).cell 0; simp only [List.getElem?_cons_zero] at cT); have lS := kS.lt; have lT := kT.lt)
    | (go_at_call 25; (with_reducible refine (set_split (x := x) hS (by omega)).mono ?_); rintro e wd ⟨⟨q3, q4, rfl, hA, hB⟩, hb⟩; have kA := (hp.Blk.new wd [.pointer q3] tyH).on ((Below.refl _ _).alloc (Nat.le_refl _) (.cells #[.pointer q4] tyH)); have kB := hp.Blk.newAt (w := wd.alloc (.cells #[.pointer q3] tyH)) (cs := [.pointer q4]) (t := tyH) (g := wd.heap.size + 1) (by simp); replace KK := st (st (st KK hb) ((Below.refl _ _).alloc (Nat.le_refl _) (.cells #[.pointer q3] tyH))) ((Below.refl _ _).alloc (Nat.le_refl _) (.cells #[.pointer q4] tyH)); replace hS := ((hS.on hb).on ((Below.refl _ _).alloc (Nat.le_refl _) (.cells #[.pointer q3] tyH))).on ((Below.refl _ _).alloc (Nat.le_refl _) (.cells #[.pointer q4] tyH)); replace hT := ((hT.on hb).on ((Below.refl _ _).alloc (Nat.le_refl _) (.cells #[.pointer q3] tyH))).on ((Below.refl _ _).alloc (Nat.le_refl _) (.cells #[.pointer q4] tyH)); replace kS := ((kS.on hb).on ((Below.refl _ _).alloc (Nat.le_refl _) (.cells #[.pointer q3] tyH))).on ((Below.refl _ _).alloc (Nat.le_refl _) (.cells #[.pointer q4] tyH)); replace kT := ((kT.on hb).on ((Below.refl _ _).alloc (Nat.le_refl _) (.cells #[.pointer q3] tyH))).on ((Below.refl _ _).alloc (Nat.le_refl _) (.cells #[.pointer q4] tyH)); replace hA := (hA.on ((Below.refl _ _).alloc (Nat.le_refl _) (.cells #[.pointer q3] tyH))).on ((Below.refl _ _).alloc (Nat.le_refl _) (.cells #[.pointer q4] tyH)); replace hB := (hB.on ((Below.refl _ _).alloc (Nat.le_refl _) (.cells #[.pointer q3] tyH))).on ((Below.refl _ _).alloc (Nat.le_refl _) (.cells #[.pointer q4] tyH)); clear hb cS cT lS lT; ((try clear cS); have cS := (kS).cell 0; simp only [List.getElem?_cons_zero] at cS); ((try clear cT); have cT := (kT).cell 0; simp only [List.getElem?_cons_zero] at cT); have lS := kS.lt; have lT := kT.lt)
    | (go_at_call 26; (with_reducible refine (set_union hS hT (by omega)).mono ?_); rintro e we ⟨⟨q5, rfl, hU⟩, hb⟩; have kU := hp.Blk.new we [.pointer q5] tyH; have hgb := (st KK hb).size; replace KK := st (st KK hb) ((Below.refl _ _).alloc (Nat.le_refl _) (.cells #[.pointer q5] tyH)); replace hU := hU.on ((Below.refl _ _).alloc (Nat.le_refl _) (.cells #[.pointer q5] tyH)); replace hS := hS.on hb; replace hT := hT.on hb; replace hA := hA.on hb; replace hB := hB.on hb; replace kS := kS.on hb; replace kT := kT.on hb; replace kA := kA.on hb; replace kB := kB.on hb; replace hS := hS.on ((Below.refl _ _).alloc (Nat.le_refl _) (.cells #[.pointer q5] tyH)); replace hT := hT.on ((Below.refl _ _).alloc (Nat.le_refl _) (.cells #[.pointer q5] tyH)); replace hA := hA.on ((Below.refl _ _).alloc (Nat.le_refl _) (.cells #[.pointer q5] tyH)); replace hB := hB.on ((Below.refl _ _).alloc (Nat.le_refl _) (.cells #[.pointer q5] tyH)); replace kS := kS.on ((Below.refl _ _).alloc (Nat.le_refl _) (.cells #[.pointer q5] tyH)); replace kT := kT.on ((Below.refl _ _).alloc (Nat.le_refl _) (.cells #[.pointer q5] tyH)); replace kA := kA.on ((Below.refl _ _).alloc (Nat.le_refl _) (.cells #[.pointer q5] tyH)); replace kB := kB.on ((Below.refl _ _).alloc (Nat.le_refl _) (.cells #[.pointer q5] tyH)); clear hb cS cT lS lT; ((try clear cS); have cS := (kS).cell 0; simp only [List.getElem?_cons_zero] at cS); ((try clear cT); have cT := (kT).cell 0; simp only [List.getElem?_cons_zero] at cT); ((try clear cA); have cA := (kA).cell 0; simp only [List.getElem?_cons_zero] at cA); ((try clear cB); have cB := (kB).cell 0; simp only [List.getElem?_cons_zero] at cB); ((try clear cU); have cU := (kU).cell 0; simp only [List.getElem?_cons_zero] at cU); have lS := kS.lt; have lT := kT.lt; have lA := kA.lt; have lB := kB.lt; have lU := kU.lt; have fU := kU.free 0)
    | (go_at_call 29; (with_reducible refine (set_join hB hT (by have := hi_le x K; omega)).mono ?_); rintro e w6 ⟨⟨q6, rfl, hV⟩, hb⟩; have kU6 := kU.on hb; replace KK := st KK hb; clear hb cS cT cA cB cU lS lT lA lB lU fU hU kU hS hT hA hB kS kT kA kB; (obtain ⟨W9, hW9, kX, hX, KK9, -⟩ := wbt.stored kU6 hgb KK hV); clear hV KK; have KK := KK9; clear KK9; (rw [hD.out] at hX); have fU6 := kU6.free 0; ((try clear cU6); have cU6 := (kU6).cell 0; simp only [List.getElem?_cons_zero] at cU6); have lU6 := kU6.lt; ((try clear cX); have cX := (kX).cell 0; simp only [List.getElem?_cons_zero] at cX); have lX := kX.lt)
    | (go_at_call 23; (with_reducible refine (set_shape hX hDl).mono ?_); rintro e w2 ⟨⟨u, t, rfl, hav, hkt, hnd⟩, hb2⟩; have hnd2 := hnd; (obtain ⟨an, cn, rfl, -⟩ := hnd2)))
  have hlt' : (shp t 0).length = D.length := by rw [shp_len, hkt]
  have hsub := sub_at (P := Wb) wb_sub (ns := shp t 0) t 0 (At.top t) hav
  have hhi := fun (t' : Tr) (o : Nat) (W : World) (hW : Below w2.heap.size w2 W) (hat : At (shp t 0) t' o) => many_any (ns := shp t 0) (by omega) t' o _ W (hnd.on hW) hat
  have hsd := fun W v (hW : Below w2.heap.size w2 W) (hv : hp.IsInts W W.heap.size v D) => shaped_any (hnd.on hW) hv hkt hDl
  have hA2 := kX.on hb2
  have hX2 := hX.on hb2
  replace KK := st KK hb2
  rw [hkt] at hsub
  simp only [Nat.zero_add] at hsub
  have hlen2 := fun W (hW : Below w2.heap.size w2 W) => len_any _ _ _ (hX2.on hW)
  have hint2 := fun W (hW : Below w2.heap.size w2 W) => ints_any (hX2.on hW) (by omega)
  obtain ⟨N, hN⟩ : ∃ N, D.length = N := ⟨_, rfl⟩
  rw [hN] at hlt' hDl hsub hlen2
  obtain ⟨ns, hns⟩ : ∃ ns, shp t 0 = ns := ⟨_, rfl⟩
  rw [hns] at hlt' hsub hhi hnd hsd
  rw [hns, hlt']
  rw [hlt'] at hhi hsd
  replace hlt' := Lib.hid hlt'
  clear hkt hns hN hb2 hav hX kX hX2
  go_loopw [17] (fun i wr => ∃ j : Nat, i = .int .i64 j ∧ j ≤ N ∧ Below w2.heap.size w2 wr) (fun i _ => N - (intOf i).toNat)
  case atStart => exact ⟨0, rfl, Nat.zero_le _, Below.refl _ _⟩
  case round =>
    rename World => W
    obtain ⟨j, rfl, hj, hbW⟩ := hrel
    by_cases hlt : j < N
    · obtain ⟨y, m, l, r, hat, hm, k1, k2, -, -⟩ := hsub j (Nat.zero_le _) hlt
      obtain ⟨ho, hnj, hal, har⟩ := hat.node
      obtain ⟨g, cap, he, hg, -, q1, q2, q3⟩ := hnd.at hnj
      cases he
      simp only at q1 q2 q3
      have hla := hal.len
      have hra := har.len
      rw [hlt'.out] at hla hra
      have h1 := fun W (hW : Below w2.heap.size w2 W) => hhi l _ W hW hal
      have h2 := fun W (hW : Below w2.heap.size w2 W) => hhi r _ W hW har
      obtain ⟨li, hli⟩ : ∃ li, idx l (j + 1) = li := ⟨_, rfl⟩
      obtain ⟨ri, hri⟩ : ∃ ri, idx r (j + 1 + (keys l).length) = ri := ⟨_, rfl⟩
      rw [hli] at q1 h1
      rw [hri] at q2 h2
      unfold wt siz at k1 k2
      unfold siz at hm
      obtain ⟨a, ha⟩ : ∃ a, (keys l).length = a := ⟨_, rfl⟩
      obtain ⟨b, hb'⟩ : ∃ b, (keys r).length = b := ⟨_, rfl⟩
      rw [ha] at h1 k1 k2 hm hla hra
      rw [hb'] at h2 k1 k2 hm hra
      have hm2 : m = (a : Int) + 1 + ((b : Int) + 1) - 1 := by rw [hm]; omega
      subst hm2
      have ha2 : a ≤ 1048576 := by omega
      have hb2 : b ≤ 1048576 := by omega
      have p1 := fun W (hW : Below w2.heap.size w2 W) => (hW.cell (p := ⟨g, j * 4 + 1, none⟩) hg).trans q1
      have p2 := fun W (hW : Below w2.heap.size w2 W) => (hW.cell (p := ⟨g, j * 4 + 2, none⟩) hg).trans q2
      have p3 := fun W (hW : Below w2.heap.size w2 W) => (hW.cell (p := ⟨g, j * 4 + 3, none⟩) hg).trans q3
      have c1 := p1 _ hbW
      have hg1 := Nat.lt_of_lt_of_le hg hbW.size
      have kb1 : ¬ (3 * ((b : Int) + 1) < (a : Int) + 1) := by omega
      have kb2 : ¬ (3 * ((a : Int) + 1) < (b : Int) + 1) := by omega
      clear hat hnj hal har hla hra hli hri ha hb' hm k1 k2 hsub hhi q1 q2 q3 hsd hint2 hlen2
      go_wp2_with (first
        | (go_at_call 30; (with_reducible refine (h1 _ hbW).mono ?_); clear h1 c1 hg1; rintro e w3 ⟨rfl, hb3⟩; replace hbW := hbW.trans (hb3.mono hbW.size); have c2 := p2 _ hbW; have hg1 := Nat.lt_of_lt_of_le hg hbW.size; clear hb3)
        | (go_at_call 30; (with_reducible refine (h2 _ hbW).mono ?_); clear h2 c2 hg1; rintro e w4 ⟨rfl, hb3⟩; replace hbW := hbW.trans (hb3.mono hbW.size); have c3 := p3 _ hbW; have hg1 := Nat.lt_of_lt_of_le hg hbW.size; clear hb3))
      go_roundw
      case rel => exact ⟨j + 1, by go_num, by omega, hbW⟩
      case measure => simp [intOf]; omega
    · obtain rfl : j = N := by omega
      ((try clear cX); have cX := ((hA2.on hbW)).cell 0; simp only [List.getElem?_cons_zero] at cX)
      have lX := (hA2.on hbW).lt
      clear hsub hhi
      go_wp2_with (first
        | (go_at_call 19; (with_reducible refine (hlen2 _ hbW).mono ?_); clear hlen2; rintro e w5 ⟨rfl, hb5⟩; replace hbW := hbW.trans (hb5.mono hbW.size); clear hb5 cX lX; ((try clear cX); have cX := ((hA2.on hbW)).cell 0; simp only [List.getElem?_cons_zero] at cX); have lX := (hA2.on hbW).lt)
        | (go_at_call 18; (with_reducible refine (hint2 _ hbW).mono ?_); clear hint2; rintro e w6 ⟨⟨u6, rfl, hI⟩, hb5⟩; replace hbW := hbW.trans (hb5.mono hbW.size); clear hb5 cX lX)
        | (go_at_call 22; (with_reducible refine (hsd _ _ hbW hI).mono ?_); clear hsd; rintro e w7 ⟨rfl, hb5⟩; replace hbW := hbW.trans (hb5.mono hbW.size); clear hb5))
      go_ret
      exact ⟨rfl, KK.trans (hbW.mono KK.size)⟩

theorem walk (v0 : Value) (l0 : List Int) (v1 : Value) (l1 : List Int) (x way : Int) (w : World) (i0 : hp.IsInts w w.heap.size v0 l0) (i1 : hp.IsInts w w.heap.size v1 l1) (w2 : (Lit.int .i64 x).wf = true) (w3 : (Lit.int .i64 way).wf = true) (bd : l0.length + l1.length ≤ 1048576) :
    Calls Try.prog 5 #[v0, v1, .int .i64 x, .int .i64 way] w fun e w' => e = .returned (.bool true) ∧ Below w.heap.size w w' := by
  by_cases h1 : way = 1
  · subst h1; exact walk1 v0 l0 v1 l1 x 1 w i0 i1 bd
  by_cases h2 : way = 2
  · subst h2; exact walk2 v0 l0 v1 l1 x 2 w i0 i1 bd
  by_cases h3 : way = 3
  · subst h3; exact walk3 v0 l0 v1 l1 x 3 w i0 i1 bd
  by_cases h4 : way = 4
  · subst h4; exact walk4 v0 l0 v1 l1 x 4 w i0 i1 bd
  by_cases h5 : way = 5
  · subst h5; exact walk5 v0 l0 v1 l1 x 5 w i0 i1 bd
  exact walk0 v0 l0 v1 l1 x way w i0 i1 bd h1 h2 h3 h4 h5
end Go.Proofs.Ytbdmccokdbfkpaa.wbtEven
