/- wattleworkref1: With and Sorted. -/
import Derived.Test.YtnfoadhhgonfkaaSame
import Derived.Test.YtnfoadhhgonfkaaInts
import Derived.Test.YtnfoadhhgonfkaaBinMath
namespace Go.Proofs.Ytnfoadhhgonfkaa.same
open Go Go.RowKit

/-- a list with one more number at a place -/
def put (l : List Int) (i : Nat) (x : Int) : List Int := l.take i ++ x :: l.drop i
theorem put_perm (l : List Int) (i : Nat) (x : Int) : (put l i x).Perm (x :: l) := by
  refine List.perm_middle.trans ?_
  rw [List.take_append_drop]
theorem put_len (l : List Int) (i : Nat) (x : Int) : (put l i x).length = l.length + 1 := by
  rw [(put_perm l i x).length_eq, List.length_cons]
theorem put_rises (x : Int) : ∀ {l : List Int}, l.Pairwise (· ≤ ·) → (put l (cnt l x) x).Pairwise (· ≤ ·)
  | [], _ => by simp [put]
  | y :: l, h => by
    obtain ⟨h1, h2⟩ := List.pairwise_cons.1 h
    by_cases hy : y < x
    · have hc : cnt (y :: l) x = cnt l x + 1 := by simp [cnt, List.countP_cons, hy]
      rw [hc]
      show (y :: put l (cnt l x) x).Pairwise _
      refine List.pairwise_cons.2 ⟨fun z hz => ?_, put_rises x h2⟩
      rcases List.mem_cons.1 ((put_perm l _ x).mem_iff.1 hz) with rfl | hz
      · omega
      · exact h1 z hz
    · have hc : cnt (y :: l) x = 0 := by
        unfold cnt
        rw [List.countP_eq_zero]
        intro z hz
        rcases List.mem_cons.1 hz with rfl | hz
        · simpa using hy
        · have := h1 z hz
          simp
          omega
      rw [hc]
      show (x :: y :: l).Pairwise _
      refine List.pairwise_cons.2 ⟨fun z hz => ?_, h⟩
      rcases List.mem_cons.1 hz with rfl | hz
      · omega
      · have := h1 z hz; omega
theorem cnt_le (l : List Int) (x : Int) : cnt l x ≤ l.length := List.countP_le_length
theorem srt_put (t : List Int) (x : Int) : put (bin.srt t) (cnt (bin.srt t) x) x = bin.srt (t ++ [x]) := by
  refine (bin.srt_of (put_rises x (bin.srt_rises t)) ?_).symm
  refine (put_perm _ _ _).trans ?_
  refine (List.Perm.cons x (bin.srt_perm t)).trans ?_
  exact List.perm_append_comm (l₁ := [x]) (l₂ := t)

attribute [-go_sem] sliced in
set_option maxHeartbeats 4000000 in
/-- wattleworkref1.With -/
theorem with_any {v : Value} {l : List Int} {i : Nat} {x : Int} {w : World} (hv : hp.IsInts w w.heap.size v l) (hi : i ≤ l.length) (hx : (Lit.int .i64 x).wf = true) (hbd : l.length < 17592186044416) :
    Calls Try.prog 23 #[v, .int .i64 i, .int .i64 x] w fun e w' => (∃ u, e = .returned u ∧ hp.IsInts w' w'.heap.size u (put l i x)) ∧ Below w.heap.size w w' := by
  have hwf : ∀ y ∈ put l i x, (Lit.int .i64 y).wf = true := fun y hy => by
    rcases List.mem_cons.1 ((put_perm l i x).mem_iff.1 hy) with rfl | hy
    · exact hx
    · exact hv.wf y hy
  have hv' := hv
  obtain ⟨a0, c0, rfl, hcap, -⟩ := hv'
  have s1 := fun W (hW : Below w.heap.size w W) => ((hv.below hW).mono hW.size).sliced (i := 0) (j := i) (Nat.zero_le _) hi
  have s2 := fun W (hW : Below w.heap.size w W) => ((hv.below hW).mono hW.size).from (i := i) hi
  have own0 : w.ownsRow w.heap.size 3 1 (.slice none 0 0) 0 (([] : List Int).map (Value.int .i64)) := World.ownsRow_nil _ _ _ _
  simp only [List.drop_zero] at s1
  have l1 : (l.take i).length = i := by simp; omega
  have l2 : (l.drop i).length = l.length - i := by simp
  generalize hT : l.take i = T at *
  generalize hD : l.drop i = D at *
  clear hv
  replace hwf := Lib.hid hwf
  replace hT := Lib.hid hT
  replace hD := Lib.hid hD
  go_enter Try.func23, Try.ntmps23
  go_wp2_with (at_builtin; refine hp.append_ints rfl _ _ 22 rfl w.heap.size 3 Try.underlying22 infoInt _ 0 [] rfl own0 _ T rfl (s1 _ (Below.refl _ _)) (by omega) (Nat.le_refl _) ?_)
  intro u1 w1 own1 gr1
  have hb1 : Below w.heap.size w w1 := (Below.refl _ _).grown gr1 (Nat.le_refl _) (by simp [Value.ownBlock])
  have hx1 : hp.IsInts (w1.alloc (.cells #[.int .i64 x] 3)) (w1.alloc (.cells #[.int .i64 x] 3)).heap.size (.slice (some ⟨w1.heap.size, 0, none⟩) 1 1) [x] := hp.IsInts.of_owns (hp.row_one w1 x) rfl (by simpa using hx)
  go_wp2_with (at_builtin; refine hp.append_ints rfl _ _ 22 rfl w.heap.size 3 Try.underlying22 infoInt _ i T rfl (own1.alloc _) _ [x] rfl hx1 (by simp; omega) (by have := hb1.size; simp; omega) ?_)
  intro u2 w2 own2 gr2
  have hb2 : Below w.heap.size w w2 := (hb1.alloc hb1.size _).grown gr2 (by have := hb1.size; simp; omega) (fun k hk => (own1.lt k hk).1)
  have own2' : w2.ownsRow w.heap.size 3 1 u2 (i + 1) ((T ++ [x]).map (Value.int .i64)) := by simpa using own2
  go_wp2_with (at_builtin; refine hp.append_ints rfl _ _ 22 rfl w.heap.size 3 Try.underlying22 infoInt _ (i + 1) (T ++ [x]) rfl own2' _ D rfl (s2 _ hb2) (by omega) hb2.size ?_)
  intro u3 w3 own3 gr3
  have hb3 : Below w.heap.size w w3 := hb2.grown gr3 hb2.size (fun k hk => (own2.lt k hk).1)
  go_wp2_with fail
  go_ret
  have he : (T ++ [x]) ++ D = put l i x := by
    unfold put
    rw [hT.out, hD.out]
    simp
  have hn : i + 1 + D.length = (put l i x).length := by rw [put_len]; omega
  have own4 : w3.ownsRow w.heap.size 3 1 u3 (put l i x).length ((put l i x).map (Value.int .i64)) := by
    rw [← hn, ← he]
    simpa [l2] using own3
  exact ⟨⟨_, rfl, hp.IsInts.of_owns own4 rfl hwf.out⟩, hb3⟩

set_option maxHeartbeats 4000000 in
/-- wattleworkref1.Sorted -/
theorem sorted_any {v : Value} {l : List Int} {w : World} (hv : hp.IsInts w w.heap.size v l) (hbd : l.length < 17592186044416) :
    Calls Try.prog 13 #[v] w fun e w' => (∃ u, e = .returned u ∧ hp.IsInts w' w'.heap.size u (bin.srt l)) ∧ Below w.heap.size w w' := by
  obtain ⟨ad, cap, rfl, hn, hm, hwf, hcell⟩ := hv
  go_enter Try.func13, Try.ntmps13
  go_wp2_with fail
  go_loopw [3, 4] (fun u i wr => ∃ k : Nat, i = .int .i64 k ∧ k ≤ l.length ∧ Below w.heap.size w wr ∧ hp.IsInts wr wr.heap.size u (bin.srt (l.take k))) (fun _ i _ => l.length - (intOf i).toNat)
  case atStart => exact ⟨0, rfl, Nat.zero_le _, Below.refl _ _, by rw [List.take_zero, show bin.srt [] = [] from by simp [bin.srt]]; exact hp.IsInts.nil _ _⟩
  case round =>
    rename_i u3 u4
    obtain ⟨k, rfl, hk, hb, hu⟩ := hrel
    by_cases hlt : k < l.length
    · obtain ⟨b, off, rfl, hbb, hce⟩ := hcell (by omega)
      have hcx := (hb.cell (p := ⟨b, off + k, none⟩) hbb).trans (hce k hlt)
      have hwx : (Lit.int .i64 (l.getD k 0)).wf = true := hwf _ (by simp [hlt])
      have s0 := take_snoc l k hlt
      have hbw : b < wr.heap.size := Nat.lt_of_lt_of_le hbb hb.size
      obtain ⟨x, hx⟩ : ∃ x, l.getD k 0 = x := ⟨_, rfl⟩
      rw [hx] at hcx hwx s0
      have hsl : (bin.srt (l.take k)).length = k := by rw [bin.srt_len]; simp; omega
      have hpu := srt_put (l.take k) x
      rw [← s0] at hpu
      obtain ⟨S, hS⟩ : ∃ S, bin.srt (l.take k) = S := ⟨_, rfl⟩
      rw [hS] at hu hpu hsl
      obtain ⟨T, hT⟩ : ∃ T, bin.srt (l.take (k + 1)) = T := ⟨_, rfl⟩
      rw [hT] at hpu
      obtain ⟨c, hc⟩ : ∃ c, cnt S x = c := ⟨_, rfl⟩
      have hcl : c ≤ S.length := by rw [← hc]; exact cnt_le _ _
      have hbel := fun W (hW : Below wr.heap.size wr W) => below_any u3 S x W (hu.on hW)
      have hwith := fun W (hW : Below wr.heap.size wr W) => with_any (i := c) (hu.on hW) hcl hwx (by omega)
      rw [hc] at hpu hbel
      rw [hpu] at hwith
      obtain ⟨a3, c3, rfl, -⟩ := hu
      clear hcell hce hwf hx s0 hwx hpu hc hcl hS
      replace hT := Lib.hid hT
      replace hsl := Lib.hid hsl
      go_wp2_with fail
      apply rel.region_tail (C := fun w' => Below wr.heap.size wr w') (X := fun w w' => Below w.heap.size w w') 12 (by kernel_rfl) (by kernel_rfl) (by kernel_rfl) (by kernel_rfl) ((Below.refl _ _).drew)
      (apply rel.walk_val; (focus (intro wq hq hf; go_wp2; refine ⟨hq, Below.refl _ _, ?_, rfl⟩; (show rel.slot _ _ = _; simp only [rel.slot_lit, List.getD_cons_succ, List.getD_cons_zero]; (first | done | exact rfl)))); (simp only [rel.put_lit, List.set_cons_succ, List.set_cons_zero]))
      (apply rel.walk_val; (focus (intro wq hq hf; go_wp2; refine ⟨hq, Below.refl _ _, ?_, rfl⟩; (show rel.slot _ _ = _; simp only [rel.slot_lit, List.getD_cons_succ, List.getD_cons_zero]; (first | done | exact rfl)))); (simp only [rel.put_lit, List.set_cons_succ, List.set_cons_zero]))
      (apply rel.walk_val; (focus (intro wq hq hf; go_wp2; refine ⟨hq, Below.refl _ _, ?_, rfl⟩; (show rel.slot _ _ = _; simp only [rel.slot_lit, List.getD_cons_succ, List.getD_cons_zero]; (first | done | exact rfl)))); (simp only [rel.put_lit, List.set_cons_succ, List.set_cons_zero]))
      (apply rel.walk_val; (focus (intro wq hq hf; go_wp2; refine ⟨hq, Below.refl _ _, ?_, rfl⟩; (show rel.slot _ _ = _; simp only [rel.slot_lit, List.getD_cons_succ, List.getD_cons_zero]; (first | done | exact rfl)))); (simp only [rel.put_lit, List.set_cons_succ, List.set_cons_zero]))
      (apply rel.walk_val; (focus (intro wq hq hf; go_wp2; refine ⟨hq, Below.refl _ _, ?_, rfl⟩; (show rel.slot _ _ = _; simp only [rel.slot_lit, List.getD_cons_succ, List.getD_cons_zero]; (first | done | exact rfl)))); (simp only [rel.put_lit, List.set_cons_succ, List.set_cons_zero]))
      ((apply rel.walk_val; (focus (intro wq hq hf; (have d0 := (hq.cell (p := ⟨b, off + k, none⟩) hbw).trans hcx); go_wp2; refine ⟨hq, Below.refl _ _, ?_, rfl⟩; (show rel.slot _ _ = _; simp only [rel.slot_lit, List.getD_cons_succ, List.getD_cons_zero]; (first | done | exact rfl)))); (simp only [rel.put_lit, List.set_cons_succ, List.set_cons_zero])))
      (apply rel.walk_val; (focus (intro wq hq hf; go_wp2_with (go_at_call 24; refine (hbel _ hq).mono ?_; rintro e w'' ⟨rfl, hb⟩); refine ⟨hq.trans (hb.mono hq.size), hb, ?_, rfl⟩; (show rel.slot _ _ = _; simp only [rel.slot_lit, List.getD_cons_succ, List.getD_cons_zero]; (first | done | exact rfl)))); (simp only [rel.put_lit, List.set_cons_succ, List.set_cons_zero]))
      (apply rel.walk_val; (focus (intro wq hq hf; go_wp2; refine ⟨hq, Below.refl _ _, ?_, rfl⟩; (show rel.slot _ _ = _; simp only [rel.slot_lit, List.getD_cons_succ, List.getD_cons_zero]; (first | done | exact rfl)))); (simp only [rel.put_lit, List.set_cons_succ, List.set_cons_zero]))
      (apply rel.walk_val; (focus (intro wq hq hf; go_wp2; refine ⟨hq, Below.refl _ _, ?_, rfl⟩; (show rel.slot _ _ = _; simp only [rel.slot_lit, List.getD_cons_succ, List.getD_cons_zero]; (first | done | exact rfl)))); (simp only [rel.put_lit, List.set_cons_succ, List.set_cons_zero]))
      (apply rel.walk_val; (focus (intro wq hq hf; go_wp2; refine ⟨hq, Below.refl _ _, ?_, rfl⟩; (show rel.slot _ _ = _; simp only [rel.slot_lit, List.getD_cons_succ, List.getD_cons_zero]; (first | done | exact rfl)))); (simp only [rel.put_lit, List.set_cons_succ, List.set_cons_zero]))
      ((apply rel.walk_val; (focus (intro wq hq hf; (have d0 := (hq.cell (p := ⟨b, off + k, none⟩) hbw).trans hcx); go_wp2; refine ⟨hq, Below.refl _ _, ?_, rfl⟩; (show rel.slot _ _ = _; simp only [rel.slot_lit, List.getD_cons_succ, List.getD_cons_zero]; (first | done | exact rfl)))); (simp only [rel.put_lit, List.set_cons_succ, List.set_cons_zero])))
      (apply rel.walk_rel (fun u w' => hp.IsInts w' w'.heap.size u (T)) ⟨_, rfl⟩ (fun u w1 w2 h1 h2 => h2.on h1); (focus (intro wq hq hf; go_wp2_with (go_at_call 23; refine (hwith _ hq).mono ?_; rintro e w'' ⟨⟨u, rfl, hu⟩, hb⟩); refine ⟨hq.trans (hb.mono hq.size), hb, ?_, rfl⟩; (show hp.IsInts _ _ (rel.slot _ _) _; simp only [rel.slot_lit, List.getD_cons_succ, List.getD_cons_zero]; exact hu))); (intro u wu _ hu; obtain ⟨pu, cu, rfl, -⟩ := hu; (simp only [rel.put_lit, List.set_cons_succ, List.set_cons_zero])))
      refine rel.walk_nil ?_
      intro w9 K9 hF
      have hu : hp.IsInts w9 w9.heap.size _ T := hF _ (List.mem_cons_self ..)
      clear hF hbel hwith hcx
      simp only [List.drop_succ_cons, List.drop_zero]
      go_wp2
      go_roundw
      case rel => exact ⟨k + 1, by go_num, by omega, hb.trans (K9.mono hb.size), by rw [hT.out]; exact hu⟩
      case measure => simp [intOf]; omega
    · obtain rfl : k = l.length := by omega
      rw [List.take_length] at hu
      go_wp2_with fail
      go_ret
      exact ⟨⟨_, rfl, hu⟩, hb⟩
end Go.Proofs.Ytnfoadhhgonfkaa.same
