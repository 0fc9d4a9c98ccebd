/- Package ral: has and At. -/
import Derived.Test.YtkenocamlaaajaaRal
namespace Go.Proofs.Ytkenocamlaaajaa.ral
open Go Go.RowKit Go.Proofs.Ytkenocamlaaajaa.sk

theorem has_any {v : Value} {l : List Int} {i : Int} {w : World} (hv : IsRal w w.heap.size v l) (hbd : l.length < 4611686018427387904) {r : Bool} (hr : r = decide (0 ≤ i ∧ i < l.length)) :
    Calls Try.prog 55 #[v, .int .i64 i] w fun e w' => e = .returned (.bool r) ∧ Below w.heap.size w w' := by
  obtain ⟨p, rfl⟩ := hv.val
  have hA := hp.Blk.new w [.pointer p] 60
  have hb0 : Below w.heap.size w (w.alloc (.cells #[.pointer p] 60)) := by
    ((repeat' (first | with_reducible exact Below.refl _ _ | with_reducible apply Below.setCell | with_reducible apply below_drewN | with_reducible apply Below.drew | with_reducible apply Below.alloc | with_reducible refine Below.trans ?_ (Below.mono (by assumption) ?_))) <;> (first | (simp; done) | (simp; omega) | omega))
  have hlen := len_any _ l _ (hv.on hb0) hbd
  clear hv
  by_cases h1 : 0 ≤ i
  · by_cases h2 : i < l.length
    · have hrt : r = true := by rw [hr]; simp [h1, h2]
      subst hrt
      clear hr
      go_enter Try.func55, Try.ntmps55
      go_wp2_with (go_at_call 50; refine hlen.mono ?_; rintro e w1 ⟨rfl, hb⟩)
      go_ret
      exact ⟨rfl, hb0.trans (hb.mono hb0.size)⟩
    · have hrf : r = false := by rw [hr]; simp [h2]
      subst hrf
      clear hr
      go_enter Try.func55, Try.ntmps55
      go_wp2_with (go_at_call 50; refine hlen.mono ?_; rintro e w1 ⟨rfl, hb⟩)
      go_ret
      refine ⟨?_, hb0.trans (hb.mono hb0.size)⟩
      show Ending.returned (.bool (decide (i < (l.length : Int)))) = _
      rw [decide_eq_false (by omega)]
  · have hrf : r = false := by rw [hr]; simp [h1]
    subst hrf
    clear hr hlen
    go_enter Try.func55, Try.ntmps55
    go_wp2_with fail
    go_ret
    exact ⟨rfl, hb0⟩

set_option maxHeartbeats 4000000 in
theorem node_raw (k i : Nat) (p : Option Addr) (xs : List Int) (w : World) (y : Int) (hy : Hid (xs.getD i 0 = y)) (hv : Nod w.heap.size w k p xs) (hi : i < xs.length) (hbd : xs.length < 4611686018427387904) :
    Calls Try.prog 56 #[.pointer p, .int .i64 i, .int .i64 (dg k)] w fun e w' => e = .returned (.int .i64 y) ∧ Below w.heap.size w w' := by
  go_enter Try.func56, Try.ntmps56
  go_wp2_with fail
  go_loop [0, 1, 2] (fun n c s => ∃ j m : Nat, ∃ q ys, n = .pointer q ∧ c = .int .i64 j ∧ s = .int .i64 (dg m) ∧ Nod w.heap.size w m q ys ∧ j < ys.length ∧ ys.length ≤ xs.length ∧ Hid (ys.getD j 0 = y)) (fun _ c _ => (intOf c).toNat)
  case atStart => exact ⟨i, k, p, xs, rfl, rfl, rfl, hv, hi, Nat.le_refl _, hy⟩
  case round =>
    obtain ⟨j, m, q, ys, rfl, rfl, rfl, hn, hj, hle, H⟩ := hrel
    rcases m with _ | m
    · obtain ⟨-, rfl⟩ := hn
      simp at hj
    · have hln := hn.len
      obtain ⟨b, n1, n2, x, us, vs, rfl, hb, hk, rfl, h1, h2⟩ := hn
      have hl1 := h1.len
      have hl2 := h2.len
      have c0 := hk.cell 0
      have c1 := hk.cell 1
      have c2 := hk.cell 2
      simp only [List.getElem?_cons_zero, List.getElem?_cons_succ] at c0 c1 c2
      have hdk := dg_succ m
      have hd0 := dg_nonneg m
      obtain ⟨d, hd⟩ : ∃ d : Int, dg m = d := ⟨_, rfl⟩
      obtain ⟨D, hD⟩ : ∃ D : Int, dg (m + 1) = D := ⟨_, rfl⟩
      rw [hd] at hdk hd0 hl1 hl2
      rw [hD] at hdk hln ⊢
      have hD2 : D / 2 = d := by omega
      have hlt : ((x :: (us ++ vs)).length : Int) = 1 + us.length + vs.length := by simp; omega
      have hDl : D < 4611686018427387904 := by omega
      rcases j with _ | j
      · have hx : x = y := by have := H.out; simpa using this
        subst hx
        clear hk H hD hd
        go_wp2_with fail
        go_ret
        refine ⟨rfl, ?_⟩
        ((repeat' (first | with_reducible exact Below.refl _ _ | with_reducible apply Below.setCell | with_reducible apply below_drewN | with_reducible apply Below.drew | with_reducible apply Below.alloc | with_reducible refine Below.trans ?_ (Below.mono (by assumption) ?_))) <;> (first | (simp; done) | (simp; omega) | omega))
      · by_cases hja : j < us.length
        · have hjd : (j : Int) < d := by omega
          have hjd2 : (j : Int) + 1 ≤ d := by omega
          have h' : Hid (us.getD j 0 = y) := by
            have := H.out
            rw [List.getD_cons_succ] at this
            show _ = _
            rw [← this]
            simp [List.getD, List.getElem?_append_left hja]
          clear H hk
          go_wp2_with fail
          go_round
          case rel => exact ⟨j, m, n1, us, rfl, rfl, by rw [hd, show (2 * d + 1) / 2 = d by omega], h1, hja, by simp at hle; omega, h'⟩
          case measure => simp [intOf]
        · obtain ⟨n, rfl⟩ : ∃ n : Nat, j = us.length + n := ⟨j - us.length, by omega⟩
          have hjv : n < vs.length := by simp at hj; omega
          have hjd : ¬ (((us.length + n : Nat) : Int) < d) := by omega
          have h' : Hid (vs.getD n 0 = y) := by
            have := H.out
            rw [List.getD_cons_succ] at this
            show _ = _
            rw [← this]
            simp [List.getD, List.getElem?_append_right]
          have hul : (us.length : Int) = d := hl1
          have hjd3 : ¬ (((us.length + n : Nat) : Int) + 1 ≤ d) := by omega
          clear H hk
          go_wp2_with fail
          go_round
          case rel => exact ⟨n, m, n2, vs, rfl, by rw [← hul]; go_num, by rw [hd, show (2 * d + 1) / 2 = d by omega], h2, hjv, by simp at hle; omega, h'⟩
          case measure => simp [intOf]; omega
theorem node_at {k i : Nat} {p : Option Addr} {xs : List Int} {w : World} {y : Int} (hv : Nod w.heap.size w k p xs) (hi : i < xs.length) (hbd : xs.length < 4611686018427387904) (hy : xs.getD i 0 = y) :
    Calls Try.prog 56 #[.pointer p, .int .i64 i, .int .i64 (dg k)] w fun e w' => e = .returned (.int .i64 y) ∧ Below w.heap.size w w' :=
  node_raw k i p xs w y hy hv hi hbd

theorem at_out {v : Value} {l : List Int} {i : Int} {w : World} (hv : IsRal w w.heap.size v l) (hi : i < 0 ∨ (l.length : Int) ≤ i) (hbd : l.length < 4611686018427387904) :
    Calls Try.prog 36 #[v, .int .i64 i] w fun e w' => e = .returned (.tuple #[.int .i64 0, .bool false]) ∧ Below w.heap.size w w' := by
  obtain ⟨p, rfl⟩ := hv.val
  have hA := hp.Blk.new w [.pointer p] 60
  have hb0 : Below w.heap.size w (w.alloc (.cells #[.pointer p] 60)) := by
    ((repeat' (first | with_reducible exact Below.refl _ _ | with_reducible apply Below.setCell | with_reducible apply below_drewN | with_reducible apply Below.drew | with_reducible apply Below.alloc | with_reducible refine Below.trans ?_ (Below.mono (by assumption) ?_))) <;> (first | (simp; done) | (simp; omega) | omega))
  have hh := has_any (i := i) (r := false) (hv.on hb0) hbd (by symm; simp; omega)
  clear hv hi hbd
  go_enter Try.func36, Try.ntmps36
  go_wp2_with (go_at_call 55; refine hh.mono ?_; rintro e w1 ⟨rfl, hb⟩)
  go_ret2
  exact ⟨rfl, hb0.trans (hb.mono hb0.size)⟩

set_option maxHeartbeats 4000000 in
theorem at_in {v : Value} {l : List Int} {i : Nat} {w : World} {y : Int} (hv : IsRal w w.heap.size v l) (hi : i < l.length) (hbd : l.length < 4611686018427387904) (hy : l.getD i 0 = y) :
    Calls Try.prog 36 #[v, .int .i64 i] w fun e w' => e = .returned (.tuple #[.int .i64 y, .bool true]) ∧ Below w.heap.size w w' := by
  have hv' := hv
  obtain ⟨p, ts, rfl, hc, hf, -, -⟩ := hv'
  have hA := hp.Blk.new w [.pointer p] 60
  have hb0 : Below w.heap.size w (w.alloc (.cells #[.pointer p] 60)) := by
    ((repeat' (first | with_reducible exact Below.refl _ _ | with_reducible apply Below.setCell | with_reducible apply below_drewN | with_reducible apply Below.drew | with_reducible apply Below.alloc | with_reducible refine Below.trans ?_ (Below.mono (by assumption) ?_))) <;> (first | (simp; done) | (simp; omega) | omega))
  have hh := has_any (i := i) (r := true) (hv.on hb0) hbd (by symm; simp; omega)
  replace hy := Lib.hid hy
  clear hv
  go_enter Try.func36, Try.ntmps36
  go_wp2_with (go_at_call 55; refine hh.mono ?_; rintro e w1 ⟨rfl, hb⟩; have hA1 := hA.on hb; have d0 := hA1.cell 0; simp only [List.getElem?_cons_zero] at d0)
  have hb1 : Below w.heap.size w w1 := hb0.trans (hb.mono hb0.size)
  clear hh hb hb0 hA hA1 d0
  go_loopw [1, 6] (fun c n W => ∃ j : Nat, ∃ q us, c = .int .i64 j ∧ n = .pointer q ∧ j < (flat us).length ∧ (flat us).length ≤ l.length ∧ Below w.heap.size w W ∧ Trs w.heap.size w q us ∧ Hid ((flat us).getD j 0 = y)) (fun c _ _ => (intOf c).toNat)
  case atStart => exact ⟨i, p, ts, rfl, rfl, by rw [hf]; exact hi, by rw [hf]; exact Nat.le_refl _, hb1, hc, by rw [hf]; exact hy⟩
  case round =>
    clear hc hi hf hb1 hy
    obtain ⟨j, q, us, rfl, rfl, hj, hle, hb, hq, hy⟩ := hrel
    rcases us with _ | ⟨⟨k, xs⟩, us⟩
    · simp [flat_nil] at hj
    · have hln := hq.len
      obtain ⟨b, r, q', rfl, hbb, hk, hr, hq'⟩ := hq
      rw [flat_cons] at hj hy hle hln
      rw [List.length_append] at hj hle hln
      have hxl := hr.len
      have c0 := (hk.below hb hbb).cell 0
      have c1 := (hk.below hb hbb).cell 1
      have c2 := (hk.below hb hbb).cell 2
      simp only [List.getElem?_cons_zero, List.getElem?_cons_succ] at c0 c1 c2
      have hd := dg_pos k
      have hcall : j < xs.length → ∀ W, Below wr.heap.size wr W → Calls Try.prog 56 #[.pointer r, .int .i64 j, .int .i64 (dg (k + 1))] W fun e w' => e = .returned (.int .i64 y) ∧ Below W.heap.size W w' := fun h W hW =>
        node_at ((hr.grow hb hb.size).grow hW hW.size) h (by omega) (by
          have := hy.out
          simpa [List.getD, List.getElem?_append_left h] using this)
      obtain ⟨D, hD⟩ : ∃ D : Int, dg (k + 1) = D := ⟨_, rfl⟩
      rw [hD] at c0 hln hxl hd hcall
      clear hk hD
      by_cases hjx : j < xs.length
      · have hj1 : ¬ (D ≤ (j : Int)) := by omega
        have hj2 : (j : Int) < D := by omega
        have hcl := hcall hjx
        have hbw : b < wr.heap.size := by have := hb.size; omega
        clear hy hcall hr
        go_wp2_with fail
        apply rel.region_tail (C := fun w' => Below wr.heap.size wr w') (X := fun w w' => Below w.heap.size w w') 10 (by kernel_rfl) (by kernel_rfl) (by kernel_rfl) (by kernel_rfl) ((Below.refl _ _).drew)
        (apply rel.walk_val; (focus (intro wq hq hf; go_wp2; refine ⟨hq, Below.refl _ _, ?_, rfl⟩; (show rel.slot _ _ = _; simp only [rel.slot_lit, List.getD_cons_succ, List.getD_cons_zero]; (first | done | exact rfl)))); (simp only [rel.put_lit, List.set_cons_succ, List.set_cons_zero]))
        (apply rel.walk_val; (focus (intro wq hq hf; go_wp2; refine ⟨hq, Below.refl _ _, ?_, rfl⟩; (show rel.slot _ _ = _; simp only [rel.slot_lit, List.getD_cons_succ, List.getD_cons_zero]; (first | done | exact rfl)))); (simp only [rel.put_lit, List.set_cons_succ, List.set_cons_zero]))
        (apply rel.walk_val; (focus (intro wq hq hf; go_wp2; refine ⟨hq, Below.refl _ _, ?_, rfl⟩; (show rel.slot _ _ = _; simp only [rel.slot_lit, List.getD_cons_succ, List.getD_cons_zero]; (first | done | exact rfl)))); (simp only [rel.put_lit, List.set_cons_succ, List.set_cons_zero]))
        (apply rel.walk_val; (focus (intro wq hq hf; (have d0 := (hq.cell (p := ⟨b, 1, none⟩) hbw).trans c1); go_wp2; refine ⟨hq, Below.refl _ _, ?_, rfl⟩; (show rel.slot _ _ = _; simp only [rel.slot_lit, List.getD_cons_succ, List.getD_cons_zero]; (first | done | exact rfl)))); (simp only [rel.put_lit, List.set_cons_succ, List.set_cons_zero]))
        (apply rel.walk_val; (focus (intro wq hq hf; go_wp2; refine ⟨hq, Below.refl _ _, ?_, rfl⟩; (show rel.slot _ _ = _; simp only [rel.slot_lit, List.getD_cons_succ, List.getD_cons_zero]; (first | done | exact rfl)))); (simp only [rel.put_lit, List.set_cons_succ, List.set_cons_zero]))
        (apply rel.walk_val; (focus (intro wq hq hf; go_wp2; refine ⟨hq, Below.refl _ _, ?_, rfl⟩; (show rel.slot _ _ = _; simp only [rel.slot_lit, List.getD_cons_succ, List.getD_cons_zero]; (first | done | exact rfl)))); (simp only [rel.put_lit, List.set_cons_succ, List.set_cons_zero]))
        (apply rel.walk_val; (focus (intro wq hq hf; go_wp2; refine ⟨hq, Below.refl _ _, ?_, rfl⟩; (show rel.slot _ _ = _; simp only [rel.slot_lit, List.getD_cons_succ, List.getD_cons_zero]; (first | done | exact rfl)))); (simp only [rel.put_lit, List.set_cons_succ, List.set_cons_zero]))
        (apply rel.walk_val; (focus (intro wq hq hf; go_wp2; refine ⟨hq, Below.refl _ _, ?_, rfl⟩; (show rel.slot _ _ = _; simp only [rel.slot_lit, List.getD_cons_succ, List.getD_cons_zero]; (first | done | exact rfl)))); (simp only [rel.put_lit, List.set_cons_succ, List.set_cons_zero]))
        (apply rel.walk_val; (focus (intro wq hq hf; (have d0 := (hq.cell (p := ⟨b, 0, none⟩) hbw).trans c0); go_wp2; refine ⟨hq, Below.refl _ _, ?_, rfl⟩; (show rel.slot _ _ = _; simp only [rel.slot_lit, List.getD_cons_succ, List.getD_cons_zero]; (first | done | exact rfl)))); (simp only [rel.put_lit, List.set_cons_succ, List.set_cons_zero]))
        (apply rel.walk_val; (focus (intro wq hq hf; go_wp2_with (go_at_call 56; refine (hcl _ hq).mono ?_; rintro e w'' ⟨rfl, hb⟩); refine ⟨hq.trans (hb.mono hq.size), hb, ?_, rfl⟩; (show rel.slot _ _ = _; simp only [rel.slot_lit, List.getD_cons_succ, List.getD_cons_zero]; (first | done | exact rfl)))); (simp only [rel.put_lit, List.set_cons_succ, List.set_cons_zero]))
        refine rel.walk_nil ?_
        intro w9 K9 hF
        clear hF
        simp only [List.drop_succ_cons, List.drop_zero]
        go_wp2
        go_ret2
        exact ⟨rfl, hb.trans (K9.mono hb.size)⟩
      · obtain ⟨n, rfl⟩ : ∃ n : Nat, j = xs.length + n := ⟨j - xs.length, by omega⟩
        have h' : Hid ((flat us).getD n 0 = y) := by
          have := hy.out
          show _ = _
          rw [← this]
          simp [List.getD, List.getElem?_append_right]
        have hj2 : ¬ (((xs.length + n : Nat) : Int) < D) := by omega
        have hj1 : D ≤ ((xs.length + n : Nat) : Int) := by omega
        clear hy hcall
        go_wp2_with fail
        go_roundw
        case rel => exact ⟨n, q', us, by rw [← hxl]; go_num, rfl, by omega, by omega, hb, hq', h'⟩
        case measure => simp [intOf]; omega
end Go.Proofs.Ytkenocamlaaajaa.ral
