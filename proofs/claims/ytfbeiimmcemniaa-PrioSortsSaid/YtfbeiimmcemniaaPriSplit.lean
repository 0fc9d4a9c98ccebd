/- Package measured: place, split. -/
import Derived.Test.YtfbeiimmcemniaaPriPop
namespace Go.Proofs.Ytfbeiimmcemniaa.pri
open Go Go.RowKit

/-- the question that Split asks: a function value with a box -/
abbrev qv (bq : Nat) : Value := .func (.func 26) #[] #[.pointer (some ⟨bq, 0, none⟩)]
/-- it is asked of measures of at most N numbers, in every later world, and answers f -/
def Asks (w : World) (bq N : Nat) (f : List (Int × Int) → Bool) : Prop := ∀ (W : World) (l : List (Int × Int)), Below w.heap.size w W → l.length ≤ N →
  Calls Try.prog 26 #[mvOf l.length l, .pointer (some ⟨bq, 0, none⟩)] W fun e W' => e = .returned (.bool (f l)) ∧ Below W.heap.size W W'
theorem Asks.on {w w' : World} {bq N : Nat} {f : List (Int × Int) → Bool} (h : Asks w bq N f) (hb : Below w.heap.size w w') : Asks w' bq N f := fun W l hW hl => h W l (hb.trans (hW.mono hb.size)) hl
theorem Asks.to {w : World} {bq N : Nat} {f : List (Int × Int) → Bool} (h : Asks w bq N f) {W : World} {l : List (Int × Int)} {b : Bool} (hW : Below w.heap.size w W) (hl : l.length ≤ N) (hf : f l = b) :
    Calls Try.prog 26 #[mvOf l.length l, .pointer (some ⟨bq, 0, none⟩)] W fun e W' => e = .returned (.bool b) ∧ Below W.heap.size W W' := hf ▸ h W l hW hl

/-- the first place where it is so, or the last one -/
def Placed (f : List (Int × Int) → Bool) (pre : List (Int × Int)) (ns : List Nd) (i : Nat) : Prop := i < ns.length ∧ (∀ j, j < i → f (pre ++ flat (ns.take (j + 1))) = false) ∧ (i + 1 < ns.length → f (pre ++ flat (ns.take (i + 1))) = true)
set_option maxRecDepth 100000 in
set_option maxHeartbeats 8000000 in
attribute [-go_sem] sliced in
theorem place_any {Q : Nat → Prop} (bq N : Nat) (f : List (Int × Int) → Bool) (v : Value) (ns : List Nd) (pre : List (Int × Int)) (w : World) (hf : Asks w bq N f) (h : Row Q w v ns) (h1 : 1 ≤ ns.length) (h8 : ns.length ≤ 8) (hN : pre.length + (flat ns).length ≤ N) (hN2 : N ≤ 4611686018427387904) :
    Calls Try.prog 47 #[qv bq, v, mvOf pre.length pre] w fun e w' => (∃ i : Nat, e = .returned (.int .i64 i) ∧ Placed f pre ns i) ∧ Below w.heap.size w w' := by
  obtain ⟨a, cap, rfl, -, hcap, hc⟩ := h.cells
  obtain ⟨m, hm⟩ : ∃ m, ns.length = m + 1 := ⟨ns.length - 1, by omega⟩
  obtain ⟨b, off, rfl, -, hb, hcell⟩ := hc h1
  have hto := h.to (j := m) (by omega)
  obtain ⟨a', cap', es, -, -, hc'⟩ := hto.cells
  have hml : (ns.take m).length = m := by simp; omega
  rw [hml] at es hc'
  have hpc : ∀ j, j < m → ∃ b' off', a' = some ⟨b', off', none⟩ ∧ b' < w.heap.size ∧ ∃ n p, ns[j]? = some n ∧ w.cell? ⟨b', off' + j, none⟩ = some (.pointer p) ∧ Nod Q w n p := by
    intro j hj
    obtain ⟨b', off', e, -, hb', hcell'⟩ := hc' (by omega)
    obtain ⟨n, hn⟩ : ∃ n, ns[j]? = some n := ⟨_, List.getElem?_eq_some_iff.2 ⟨by omega, rfl⟩⟩
    obtain ⟨p, kp, hnod⟩ := hcell' j n (by rw [List.getElem?_take, if_pos (by omega), hn])
    exact ⟨b', off', e, hb', n, p, hn, kp, hnod⟩
  have hlen : ∀ j, (pre ++ flat (ns.take j)).length ≤ N := by
    intro j
    have e : flat ns = flat (ns.take j) ++ flat (ns.drop j) := by rw [← flat_append, List.take_append_drop]
    rw [e, List.length_append] at hN
    rw [List.length_append]
    omega
  have hM := methodJoin
  have hmc : m ≤ cap := by omega
  have hres : ∀ i : Nat, i ≤ m → (∀ j, j < i → f (pre ++ flat (ns.take (j + 1))) = false) → (i < m → f (pre ++ flat (ns.take (i + 1))) = true) → Placed f pre ns i :=
    fun i hi h1 h2 => ⟨by omega, h1, fun h => h2 (by omega)⟩
  have hR := hp.Blk.new w [.int .i64 (pre.length : Nat), .int .i64 (topOf pre)] 50
  replace hpc := Lib.hid hpc
  replace hlen := Lib.hid hlen
  replace hres := Lib.hid hres
  replace hf := Lib.hid hf
  rw [hm] at h8 hcap ⊢
  replace hml := Lib.hid hml
  replace hm := Lib.hid hm
  clear hc hcell h hto hc' h1 hN
  go_enter Try.func47, Try.ntmps47
  go_wp2_with fail
  go_loopw [8, 9, 17] (fun _ _ i wr => ∃ (j : Nat) (T : List (Int × Int)), i = .int .i64 j ∧ j ≤ m ∧ Below w.heap.size w wr ∧ Hid (pre ++ flat (ns.take j) = T) ∧ hp.Blk wr w.heap.size 50 [.int .i64 (T.length : Nat), .int .i64 (topOf T)] ∧ ∀ k, k < j → f (pre ++ flat (ns.take (k + 1))) = false) (fun _ _ i _ => m - (intOf i).toNat)
  case atStart => exact ⟨0, pre, rfl, by omega, by ((repeat' (first | with_reducible exact Below.refl _ _ | with_reducible apply Below.setCell | with_reducible apply below_drewN | with_reducible apply Below.drew | with_reducible apply Below.alloc | with_reducible refine Below.trans ?_ (Below.mono (by assumption) ?_))) <;> (first | (simp; done) | (simp; omega) | omega)), by show _ = _; simp [flat], hR, fun k hk => by omega⟩
  case round =>
    clear hR
    obtain ⟨j, T, rfl, hj, hbr, hT, hB, hno⟩ := hrel
    by_cases hlt : j < m
    · obtain ⟨b', off', rfl, hb', n, p, hn, kp, hnod⟩ := hpc.out j hlt
      obtain ⟨g', x', u', rfl, hg', hk', -⟩ := (hnod.on hbr).blk
      have kp2 := (hbr.cell (p := ⟨b', off' + j, none⟩) hb').trans kp
      have hbw : b' < wr.heap.size := by have := hbr.size; omega
      obtain ⟨M, hMn⟩ : ∃ N, n.nums = N := ⟨_, rfl⟩
      obtain ⟨T', hT'⟩ : ∃ T', T ++ M = T' := ⟨_, rfl⟩
      have hnext : pre ++ flat (ns.take (j + 1)) = T' := by
        rw [List.take_add_one, hn, ← hT', ← hT.out, ← hMn]
        simp [flat]
      have hl' := hlen.out (j + 1)
      rw [hnext] at hl'
      have hJ := fun W => mjoin_any T M T' W hT' (by have := congrArg List.length hT'; rw [List.length_append] at this; omega)
      rw [hMn] at hk'
      obtain ⟨ans, hans⟩ : ∃ b, f T' = b := ⟨_, rfl⟩
      have hA := fun W (K : Below w.heap.size w W) => Asks.to hf.out (W := W) K hl' hans
      have hmb : m ≤ 8 := by omega
      replace hnext := Lib.hid hnext
      replace hans := Lib.hid hans
      replace hno := Lib.hid hno
      clear hT hnod hMn hT' hn kp es hl'
      go_wp2_with fail
      apply rel.region_tail (C := fun w' => Below wr.heap.size wr w') (X := fun w w' => Below w.heap.size w w') 7 (by kernel_rfl) (by kernel_rfl) (by kernel_rfl) (by kernel_rfl) ((Below.refl _ _).drew)
      ((apply rel.walk_val; (focus (intro wq hq hf; (obtain ⟨d0, d1⟩ := ((hB).below hq (hB).lt).cellsM); go_wp2; refine ⟨hq, Below.refl _ _, ?_, rfl⟩; (show rel.slot _ _ = _; simp only [rel.slot_lit, List.getD_cons_succ, List.getD_cons_zero]; (first | done | exact rfl)))); (simp only [rel.put_lit, List.set_cons_succ, List.set_cons_zero])))
      (apply rel.walk_val; (focus (intro wq hq hf; go_wp2; refine ⟨hq, Below.refl _ _, ?_, rfl⟩; (show rel.slot _ _ = _; simp only [rel.slot_lit, List.getD_cons_succ, List.getD_cons_zero]; (first | done | exact rfl)))); (simp only [rel.put_lit, List.set_cons_succ, List.set_cons_zero]))
      (apply rel.walk_val; (focus (intro wq hq hf; go_wp2; refine ⟨hq, Below.refl _ _, ?_, rfl⟩; (show rel.slot _ _ = _; simp only [rel.slot_lit, List.getD_cons_succ, List.getD_cons_zero]; (first | done | exact rfl)))); (simp only [rel.put_lit, List.set_cons_succ, List.set_cons_zero]))
      (apply rel.walk_val; (focus (intro wq hq hf; go_wp2; refine ⟨hq, Below.refl _ _, ?_, rfl⟩; (show rel.slot _ _ = _; simp only [rel.slot_lit, List.getD_cons_succ, List.getD_cons_zero]; (first | done | exact rfl)))); (simp only [rel.put_lit, List.set_cons_succ, List.set_cons_zero]))
      (apply rel.walk_val; (focus (intro wq hq hf; go_wp2; refine ⟨hq, Below.refl _ _, ?_, rfl⟩; (show rel.slot _ _ = _; simp only [rel.slot_lit, List.getD_cons_succ, List.getD_cons_zero]; (first | done | exact rfl)))); (simp only [rel.put_lit, List.set_cons_succ, List.set_cons_zero]))
      ((apply rel.walk_val; (focus (intro wq hq hf; (obtain ⟨d0, d1⟩ := ((hk').below hq (hk').lt).cellsM); go_wp2; refine ⟨hq, Below.refl _ _, ?_, rfl⟩; (show rel.slot _ _ = _; simp only [rel.slot_lit, List.getD_cons_succ, List.getD_cons_zero]; (first | done | exact rfl)))); (simp only [rel.put_lit, List.set_cons_succ, List.set_cons_zero])))
      (apply rel.walk_val; (focus (intro wq hq hf; go_wp2_with (go_at_call 67; refine (hJ _).mono ?_; rintro e w'' ⟨rfl, hb⟩); refine ⟨hq.trans (hb.mono hq.size), hb, ?_, rfl⟩; (show rel.slot _ _ = _; simp only [rel.slot_lit, List.getD_cons_succ, List.getD_cons_zero]; (first | done | exact rfl)))); (simp only [rel.put_lit, List.set_cons_succ, List.set_cons_zero]))
      refine rel.walk_nil ?_
      intro w9 K9 hF
      clear hF
      have hB9 := hB.on K9
      obtain ⟨d0, d1⟩ := hB9.cellsM
      have df := hB9.free
      obtain ⟨W2, hW2⟩ : ∃ W2, (w9.setCell ⟨w.heap.size, 0, none⟩ (.int .i64 (T'.length : Nat))).setCell ⟨w.heap.size, 1, none⟩ (.int .i64 (topOf T')) = W2 := ⟨_, rfl⟩
      have hB2 : hp.Blk W2 w.heap.size 50 [.int .i64 (T'.length : Nat), .int .i64 (topOf T')] := by rw [← hW2]; exact hB9.setM _ _
      have hb2 : Below w.heap.size w W2 := by
        rw [← hW2]
        refine hbr.trans ((K9.mono hbr.size).trans ?_)
        ((repeat' (first | with_reducible exact Below.refl _ _ | with_reducible apply Below.setCell | with_reducible apply below_drewN | with_reducible apply Below.drew | with_reducible apply Below.alloc | with_reducible refine Below.trans ?_ (Below.mono (by assumption) ?_))) <;> (first | (simp; done) | (simp; omega) | omega))
      obtain ⟨e0, e1⟩ := hB2.cellsM
      have lB := hB2.lt
      have hA2 := hA _ hb2
      clear hA hJ hk' hB hB9 K9
      simp only [List.drop_succ_cons, List.drop_zero]
      cases ans
      · go_wp2_with (go_at_call 26; (with_reducible refine hA2.mono ?_); clear hA2; rintro e w3 ⟨rfl, hb3⟩)
        go_roundw
        case rel =>
          refine ⟨j + 1, T', by go_num, by omega, hb2.trans (hb3.mono hb2.size), hnext, hB2.on hb3, fun k hk => ?_⟩
          by_cases hkj : k = j
          · subst hkj
            rw [hnext.out]
            exact hans.out
          · exact hno.out k (by omega)
        case measure => simp [intOf]; omega
      · go_wp2_with (go_at_call 26; (with_reducible refine hA2.mono ?_); clear hA2; rintro e w3 ⟨rfl, hb3⟩)
        go_ret
        exact ⟨⟨j, rfl, hres.out j (by omega) hno.out (fun _ => by rw [hnext.out]; exact hans.out)⟩, hb2.trans (hb3.mono hb2.size)⟩
    · obtain rfl : j = m := by omega
      replace hno := Lib.hid hno
      go_wp2_with fail
      go_ret
      exact ⟨⟨j, rfl, hres.out j (Nat.le_refl _) hno.out (fun h => absurd h (Nat.lt_irrefl _))⟩, hbr⟩
end Go.Proofs.Ytfbeiimmcemniaa.pri
