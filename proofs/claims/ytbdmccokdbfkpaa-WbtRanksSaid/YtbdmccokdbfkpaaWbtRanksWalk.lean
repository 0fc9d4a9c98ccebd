/- The walk of WbtRanks. -/
import Derived.Test.YtbdmccokdbfkpaaWbtWalks
import Derived.Test.YtbdmccokdbfkpaaWbtJoin
namespace Go.Proofs.Ytbdmccokdbfkpaa.wbtRanks
open Go Go.RowKit Go.Proofs.Ytbdmccokdbfkpaa.wbt Go.Proofs.Ytbdmccokdbfkpaa.sch
set_option linter.unusedVariables false

/-- what is less stands ahead -/
theorem parted (x : Int) : ∀ {l : List Int}, Asc l → ∃ b, l = lo x l ++ b ∧ ∀ y ∈ b, x ≤ y
  | [], _ => ⟨[], rfl, by simp⟩
  | y :: l, h => by
    by_cases hy : y < x
    · obtain ⟨b, e, hb⟩ := parted x (List.pairwise_cons.1 h).2
      refine ⟨b, ?_, hb⟩
      rw [show lo x (y :: l) = y :: lo x l from List.filter_cons_of_pos (by simpa using hy), List.cons_append, ← e]
    · refine ⟨y :: l, ?_, fun z hz => ?_⟩
      · rw [lo_none]
        · rfl
        · intro z hz
          rcases List.mem_cons.1 hz with rfl | hz
          · omega
          · have := (List.pairwise_cons.1 h).1 z hz; omega
      · rcases List.mem_cons.1 hz with rfl | hz
        · omega
        · have := (List.pairwise_cons.1 h).1 z hz; omega
/-- the number at a place has that rank -/
theorem at_rank {l : List Int} {i y : Int} (ha : Asc l) (h : at_ l i = (y, true)) : (same.cnt l y : Int) = i ∧ y ∈ l := by
  unfold at_ at h
  split at h
  · rename_i hi
    obtain ⟨h0, h1⟩ := hi
    obtain ⟨n, rfl⟩ : ∃ n : Nat, i = n := ⟨i.toNat, by omega⟩
    have hn : n < l.length := by omega
    have hy : l[n] = y := by
      have := (Prod.mk.inj h).1
      simpa [hn] using this
    have hl : l = l.take n ++ y :: l.drop (n + 1) := by
      rw [← hy, ← List.drop_eq_getElem_cons hn, List.take_append_drop]
    refine ⟨?_, by rw [← hy]; exact List.getElem_mem hn⟩
    rw [hl] at ha
    have e : same.cnt l y = n := by
      rw [hl, cnt_lo, lo_mid ha, List.length_take]
      omega
    rw [e]
  · simp at h
theorem at_some {l : List Int} {i : Int} (f : Bool) (y : Int) (h : at_ l i = (y, f)) : (f = true ∧ at_ l i = (y, true)) ∨ (f = false ∧ y = 0 ∧ at_ l i = (0, false)) := by
  unfold at_ at h ⊢
  split at h
  · rename_i hi
    obtain ⟨h1, rfl⟩ := Prod.mk.inj h
    exact .inl ⟨rfl, by rw [if_pos hi, h1]⟩
  · rename_i hi
    obtain ⟨h1, rfl⟩ := Prod.mk.inj h
    exact .inr ⟨rfl, h1.symm, by rw [if_neg hi]⟩

set_option maxRecDepth 100000 in
set_option maxHeartbeats 16000000 in
theorem core (v0 : Value) (l0 : List Int) (i x y z u : Int) (has is ahead : Bool) (K : List Int) (N L : Nat) (w : World) (i0 : hp.IsInts w w.heap.size v0 l0) (bd : l0.length ≤ 17592186043904) (hK : uniq l0 = K) (hL : K.length = L)
    (hi : i ≤ 9223372036854775807) (hN : same.cnt K x = N) (h1 : at_ K i = (y, has)) (h2 : at_ K N = (z, is)) (h3 : at_ K ((N : Int) - 1) = (u, ahead))
    (hh : (has = true ∧ (same.cnt K y : Int) = i ∧ y ∈ K) ∨ has = false) (hz : (is = true ∧ x ≤ z ∧ N < L) ∨ (is = false ∧ N = L)) (hu : (ahead = true ∧ 0 < N ∧ u < x) ∨ (ahead = false ∧ ¬ (0 : Int) < (N : Int))) :
    Calls Try.prog 8 #[v0, .int .i64 i, .int .i64 x] w fun e w' => e = .returned (.bool true) ∧ Below w.heap.size w w' := by
  have hul := uniq_le l0
  have H1 := fun W (hW : Below w.heap.size w W) => of_as hK (i0.on hW) (by omega)
  rw [hK] at hul
  have hbK : K.length < 576460752303423400 := by omega
  have A1 := fun W v (hS : IsSet W W.heap.size v K) => at_any hS hbK hi h1
  have A2 := fun W v (hS : IsSet W W.heap.size v K) => at_any hS hbK (by have := wbt.cnt_le K x; omega) h2
  have A3 := fun W v (hS : IsSet W W.heap.size v K) => at_any hS hbK (by have := wbt.cnt_le K x; omega) h3
  have R2 : ∀ W v (hS : IsSet W W.heap.size v K), Calls Try.prog 32 #[v, .int .i64 x] W fun e w' => e = .returned (.int .i64 (N : Int)) ∧ Below W.heap.size W w' := fun W v hS => by
    have := rank_any (x := x) hS hbK
    rw [hN] at this
    exact this
  have L2 : ∀ W v (hS : IsSet W W.heap.size v K), Calls Try.prog 19 #[v] W fun e w' => e = .returned (.int .i64 (L : Int)) ∧ Below W.heap.size W w' := fun W v hS => by
    have := len_any v K W hS
    rw [hL] at this
    exact this
  have R1 : Hid (∀ (hc : (same.cnt K y : Int) = i) W v (hS : IsSet W W.heap.size v K), Calls Try.prog 32 #[v, .int .i64 y] W fun e w' => e = .returned (.int .i64 i) ∧ Below W.heap.size W w') := Lib.hid fun hc W v hS => by
    have := rank_any (x := y) hS hbK
    rw [hc] at this
    exact this
  have P1 : Hid (∀ (hc : y ∈ K) W v (hS : IsSet W W.heap.size v K), Calls Try.prog 20 #[v, .int .i64 y] W fun e w' => e = .returned (.bool true) ∧ Below W.heap.size W w') := Lib.hid fun hc W v hS => set_has hS (decide_eq_true hc).symm
  have hNL : N ≤ L := by rw [← hN, ← hL]; exact wbt.cnt_le K x
  have hLb : L ≤ 17592186043904 := by omega
  obtain ⟨a0, c0, rfl, -⟩ := i0
  have KK := Below.refl w.heap.size w
  clear bd hK hul h1 h2 h3 hN hbK hL
  rcases hh with ⟨rfl, hc, hm⟩ | rfl <;> rcases hz with ⟨rfl, hz1, hz2⟩ | ⟨rfl, rfl⟩ <;> rcases hu with ⟨rfl, hu1, hu2⟩ | ⟨rfl, hu0⟩ <;> (
    (try have R1' := R1.out hc)
    (try have P1' := P1.out hm)
    (try clear hc hm)
    clear R1 P1
    (try have hz3 : ¬ z < x := by omega)
    (try clear hz1)
    go_enter Try.func8, Try.ntmps8
    go_wp2_with (first
      | (go_at_call 11; (with_reducible refine (wbted_any _).mono ?_); rintro e wa ⟨rfl, hb⟩; replace KK := st KK hb; clear hb)
      | (go_at_call 24; (with_reducible refine (H1 _ KK).mono ?_); clear H1; rintro e wb ⟨⟨q1, rfl, hS⟩, hb⟩; have kS := hp.Blk.new wb [.pointer q1] tyH; replace KK := st (st KK hb) ((Below.refl _ _).alloc (Nat.le_refl _) (.cells #[.pointer q1] tyH)); replace hS := hS.on ((Below.refl _ _).alloc (Nat.le_refl _) (.cells #[.pointer q1] tyH)); clear hb; ((try clear cS); have cS := (kS).cell 0; simp only [List.getElem?_cons_zero] at cS); have lS := kS.lt)
      | (go_at_call 33; (with_reducible refine (A1 _ _ hS).mono ?_); rintro e wc ⟨rfl, hb⟩; replace KK := st KK hb; replace hS := hS.on hb; replace kS := kS.on hb; clear hb cS lS; ((try clear cS); have cS := (kS).cell 0; simp only [List.getElem?_cons_zero] at cS); have lS := kS.lt)
      | (go_at_call 32; (with_reducible refine (R1' _ _ hS).mono ?_); rintro e wd ⟨rfl, hb⟩; replace KK := st KK hb; replace hS := hS.on hb; replace kS := kS.on hb; clear hb cS lS; ((try clear cS); have cS := (kS).cell 0; simp only [List.getElem?_cons_zero] at cS); have lS := kS.lt)
      | (go_at_call 20; (with_reducible refine (P1' _ _ hS).mono ?_); rintro e we ⟨rfl, hb⟩; replace KK := st KK hb; replace hS := hS.on hb; replace kS := kS.on hb; clear hb cS lS; ((try clear cS); have cS := (kS).cell 0; simp only [List.getElem?_cons_zero] at cS); have lS := kS.lt)
      | (go_at_call 32; (with_reducible refine (R2 _ _ hS).mono ?_); rintro e wf ⟨rfl, hb⟩; replace KK := st KK hb; replace hS := hS.on hb; replace kS := kS.on hb; clear hb cS lS; ((try clear cS); have cS := (kS).cell 0; simp only [List.getElem?_cons_zero] at cS); have lS := kS.lt)
      | (go_at_call 33; (with_reducible refine (A2 _ _ hS).mono ?_); rintro e wg ⟨rfl, hb⟩; replace KK := st KK hb; replace hS := hS.on hb; replace kS := kS.on hb; clear hb cS lS; ((try clear cS); have cS := (kS).cell 0; simp only [List.getElem?_cons_zero] at cS); have lS := kS.lt)
      | (go_at_call 19; (with_reducible refine (L2 _ _ hS).mono ?_); rintro e wi ⟨rfl, hb⟩; replace KK := st KK hb; replace hS := hS.on hb; replace kS := kS.on hb; clear hb cS lS; ((try clear cS); have cS := (kS).cell 0; simp only [List.getElem?_cons_zero] at cS); have lS := kS.lt)
      | (go_at_call 33; (with_reducible refine (A3 _ _ hS).mono ?_); rintro e wj ⟨rfl, hb⟩; replace KK := st KK hb; replace hS := hS.on hb; replace kS := kS.on hb; clear hb cS lS; ((try clear cS); have cS := (kS).cell 0; simp only [List.getElem?_cons_zero] at cS); have lS := kS.lt))
    go_ret
    exact ⟨rfl, KK⟩)

theorem walk (v0 : Value) (l0 : List Int) (i x : Int) (w : World) (i0 : hp.IsInts w w.heap.size v0 l0) (w1 : (Lit.int .i64 i).wf = true) (w2 : (Lit.int .i64 x).wf = true) (bd : l0.length ≤ 17592186043904) :
    Calls Try.prog 8 #[v0, .int .i64 i, .int .i64 x] w fun e w' => e = .returned (.bool true) ∧ Below w.heap.size w w' := by
  have hi : i ≤ 9223372036854775807 := by
    have := w1
    simp [Lit.wf, IntKind.min, IntKind.max, IntKind.signed, IntKind.bits] at this
    omega
  obtain ⟨K, hK⟩ : ∃ K, uniq l0 = K := ⟨_, rfl⟩
  have aK : Asc K := by rw [← hK]; exact uniq_asc l0
  obtain ⟨y, has, h1⟩ : ∃ y has, at_ K i = (y, has) := ⟨_, _, rfl⟩
  have hh : (has = true ∧ (same.cnt K y : Int) = i ∧ y ∈ K) ∨ has = false := by
    cases has with
    | false => exact .inr rfl
    | true => exact .inl ⟨rfl, at_rank aK h1⟩
  obtain ⟨b, hb, hge⟩ := parted x aK
  have hN : same.cnt K x = (lo x K).length := cnt_lo K x
  have hlt : ∀ z ∈ lo x K, z < x := fun z hz => (mem_lo.1 hz).2
  generalize lo x K = A at *
  obtain ⟨z, is, h2, hz⟩ : ∃ z is, at_ K (A.length : Int) = (z, is) ∧ ((is = true ∧ x ≤ z ∧ A.length < K.length) ∨ (is = false ∧ A.length = K.length)) := by
    rcases b with _ | ⟨z, b⟩
    · rw [List.append_nil] at hb
      refine ⟨0, false, ?_, .inr ⟨rfl, by rw [hb]⟩⟩
      unfold at_
      rw [if_neg]
      rw [hb]
      omega
    · refine ⟨z, true, ?_, .inl ⟨rfl, hge z (by simp), by rw [hb]; simp⟩⟩
      rw [hb]
      exact at_mid z A b
  obtain ⟨u, ahead, h3, hu⟩ : ∃ u ahead, at_ K ((A.length : Int) - 1) = (u, ahead) ∧ ((ahead = true ∧ 0 < A.length ∧ u < x) ∨ (ahead = false ∧ ¬ (0 : Int) < (A.length : Int))) := by
    rcases List.eq_nil_or_concat A with h | ⟨t, u, h⟩
    · subst h
      refine ⟨0, false, ?_, .inr ⟨rfl, by simp⟩⟩
      unfold at_
      rw [if_neg (by simp)]
    · obtain rfl : A = t ++ [u] := by simpa using h
      refine ⟨u, true, ?_, .inl ⟨rfl, by simp, hlt u (by simp)⟩⟩
      rw [hb, List.append_assoc, show ((t ++ [u]).length : Int) - 1 = (t.length : Int) by simp]
      exact at_mid u t _
  exact core v0 l0 i x y z u has is ahead K A.length K.length w i0 bd hK rfl hi hN h1 h2 h3 hh hz hu
end Go.Proofs.Ytbdmccokdbfkpaa.wbtRanks
