/- Contracts of package mono's functions that return measures. -/
import Derived.Test.YthjpgcljmbajkaaMonoFns
import Derived.Test.YthjpgcljmbajkaaReg
import Derived.Test.YthjpgcljmbajkaaHeap
import Derived.StillTailTactics
import Derived.Deep.RegionWith
import Derived.Deep.DeepCutAuto
import Derived.Deep.RegionHeld3
import Derived.Lib.MinMax
import Derived.WalkSmall
namespace Go.Proofs.Ythjpgcljmbajkaa.mono
open Go.RowKit

abbrev mv (n s lo hi h : Int) : Value := .agg #[.int .i64 n, .int .i64 s, .int .i64 lo, .int .i64 hi, .int .i64 h]

theorem none_any (w : World) : Calls Try.prog 7 #[] w fun e w' => e = .returned (mv 0 0 9223372036854775807 (-9223372036854775808) 0) ∧ Below w.heap.size w w' := by
  go_enter Try.func7, Try.ntmps7
  go_wp2
  exact bodyPost_ret (v := mv 0 0 9223372036854775807 (-9223372036854775808) 0) (by simp [results, Try.results7, go_sem]) rfl ⟨rfl, (Below.refl _ _).alloc (Nat.le_refl _) _⟩

theorem one_any (x : Int) (w : World) : Calls Try.prog 9 #[.int .i64 x] w fun e w' => e = .returned (mv 1 x x x ((x % 2147483647 + 1) % 2147483647)) ∧ Below w.heap.size w w' := by
  go_enter Try.func9, Try.ntmps9
  have h1 : 0 ≤ x % 2147483647 := by omega
  have h2 : x % 2147483647 < 2147483647 := by omega
  go_wp2_with (go_at_call 15; refine (reduce_any _ _).mono ?_; rintro e w' ⟨rfl, rfl⟩)
  exact bodyPost_ret (v := mv 1 x x x ((x % 2147483647 + 1) % 2147483647)) (by simp [results, Try.results9, go_sem]) rfl ⟨rfl, (Below.refl _ _).alloc (Nat.le_refl _) _⟩

set_option maxHeartbeats 4000000 in
theorem join_any (n s lo hi h n' s' lo' hi' h' : Int) (w : World) (hn : n' ≤ 9223372036854775807) :
    Calls Try.prog 11 #[mv n s lo hi h, mv n' s' lo' hi' h'] w fun e w' =>
      e = .returned (mv (wrap64 (n + n')) (wrap64 (s + s')) (min lo lo') (max hi hi') ((h % 2147483647 * pw n'.toNat % 2147483647 + h' % 2147483647) % 2147483647)) ∧ Below w.heap.size w w' := by
  have p1 := pw_bd n'.toNat
  have h1 : 0 ≤ h % 2147483647 := by omega
  have h2 : h % 2147483647 < 2147483647 := by omega
  have h3 : 0 ≤ h' % 2147483647 := by omega
  have h4 : h' % 2147483647 < 2147483647 := by omega
  have b1 : 0 ≤ h % 2147483647 * pw n'.toNat := Int.mul_nonneg h1 p1.1
  have b2 : h % 2147483647 * pw n'.toNat ≤ 2147483647 * 2147483647 := Int.mul_le_mul (by omega) (by omega) p1.1 (by omega)
  have b5 : h % 2147483647 * pw n'.toNat ≤ 9223372036854775807 := by omega
  have b6 : 0 ≤ h % 2147483647 * pw n'.toNat % 2147483647 := by omega
  have b7 : h % 2147483647 * pw n'.toNat % 2147483647 < 2147483647 := by omega
  clear b2 p1
  go_enter Try.func11, Try.ntmps11
  go_wp2_with fail
  go_quiet ((first | (go_at_call 15; exact Calls.quiet_of_same ((reduce_any _ _).mono fun e w' h => ⟨h.1, h.2.symm⟩)) | (go_at_call 16; exact Calls.quiet_of_same ((power_any _ _ (by omega)).mono fun e w' h => ⟨h.1, h.2.symm⟩))))
  go_wp2
  (refine reg.region_tail_again 27 (by kernel_rfl) (by kernel_rfl) ?_; simp only [List.take_succ_cons, List.take_zero, List.drop_succ_cons, List.drop_zero]; (repeat (go_big_quiet_step ((go_at_call 15; exact Calls.quiet_of_same ((reduce_any _ _).mono fun e w' h => ⟨h.1, h.2.symm⟩))))); refine wpQuiet_nil ?_; intro _ hw'; obtain ⟨nq, hw''⟩ := hw'; subst hw'')
  go_wp2
  refine bodyPost_ret (v := mv (wrap64 (n + n')) (wrap64 (s + s')) (min lo lo') (max hi hi') ((h % 2147483647 * pw n'.toNat % 2147483647 + h' % 2147483647) % 2147483647)) (by simp [results, Try.results11, go_sem]) rfl ⟨rfl, ?_⟩
  ((repeat' (first | with_reducible exact Below.refl _ _ | with_reducible apply Below.setCell | with_reducible apply below_drewN | with_reducible apply Below.drew | with_reducible apply Below.alloc)) <;> (first | (simp; done) | (simp; omega) | omega))

/-- the measure of a list, step by step -/
def hashOf : List Int → Int
  | l => l.foldl (fun h x => (h * 131 + (x % 2147483647 + 1)) % 2147483647) 0
def sumOf (l : List Int) : Int := l.foldl (fun s x => wrap64 (s + x)) 0
def lstOf (l : List Int) : Int := l.foldl min 9223372036854775807
def mstOf (l : List Int) : Int := l.foldl max (-9223372036854775808)
abbrev mvOf (n : Nat) (l : List Int) : Value := mv n (sumOf l) (lstOf l) (mstOf l) (hashOf l)

theorem hash_bd (l : List Int) : 0 ≤ hashOf l ∧ hashOf l < 2147483647 := by
  unfold hashOf
  suffices H : ∀ h : Int, 0 ≤ h → h < 2147483647 → 0 ≤ l.foldl (fun h x => (h * 131 + (x % 2147483647 + 1)) % 2147483647) h ∧ l.foldl (fun h x => (h * 131 + (x % 2147483647 + 1)) % 2147483647) h < 2147483647 from H 0 (by omega) (by omega)
  induction l with
  | nil => intro h h1 h2; exact ⟨h1, h2⟩
  | cons x l ih => intro h h1 h2; exact ih _ (by simp only []; omega) (by simp only []; omega)
theorem take_snoc (zs : List Int) (k : Nat) (h : k < zs.length) : zs.take (k + 1) = zs.take k ++ [zs.getD k 0] := by
  rw [List.take_succ_eq_append_getElem h]; simp [h]
theorem sum_snoc (l : List Int) (x : Int) : sumOf (l ++ [x]) = wrap64 (sumOf l + x) := by simp [sumOf]
theorem least_snoc (l : List Int) (x : Int) : lstOf (l ++ [x]) = min (lstOf l) x := by simp [lstOf]
theorem most_snoc (l : List Int) (x : Int) : mstOf (l ++ [x]) = max (mstOf l) x := by simp [mstOf]
theorem hash_snoc (l : List Int) (x : Int) : hashOf (l ++ [x]) = (hashOf l % 2147483647 * pw (1 : Int).toNat % 2147483647 + (x % 2147483647 + 1) % 2147483647 % 2147483647) % 2147483647 := by
  rw [show pw (1 : Int).toNat = 131 from by simp [pw]]
  simp only [hashOf, List.foldl_append, List.foldl_cons, List.foldl_nil]
  omega

set_option maxHeartbeats 4000000 in
theorem of_any (v : Value) (l : List Int) (w : World) (hv : hp.IsInts w w.heap.size v l) :
    Calls Try.prog 10 #[v] w fun e w' => e = .returned (mvOf l.length l) ∧ Below w.heap.size w w' := by
  obtain ⟨a, cap, rfl, hnc, hm, hwf, hc⟩ := hv
  clear hwf hnc
  go_enter Try.func10, Try.ntmps10
  go_wp2_with (go_at_call 7; refine (none_any _).mono ?_; rintro e w1 ⟨rfl, hb1⟩)
  have hz1 : w.heap.size < w1.heap.size := by have := hb1.size; simp at this; omega
  have hk1 : hp.Blk w1 w.heap.size 24 [.int .i64 0, .int .i64 0, .int .i64 0, .int .i64 0, .int .i64 0] := (hp.Blk.new w [.int .i64 0, .int .i64 0, .int .i64 0, .int .i64 0, .int .i64 0] _).below hb1 (by simp)
  have hw1 : Below w.heap.size w w1 := ((Below.refl w.heap.size w).alloc (Nat.le_refl _) _).trans (hb1.mono (by simp))
  clear hb1
  go_loopw [5, 9] (fun _ i wr => ∃ k : Nat, k ≤ l.length ∧ i = .int .i64 k ∧ Below w1.heap.size w1 wr ∧ hp.Blk wr w1.heap.size 24 [.int .i64 k, .int .i64 (sumOf (l.take k)), .int .i64 (lstOf (l.take k)), .int .i64 (mstOf (l.take k)), .int .i64 (hashOf (l.take k))]) (fun _ i _ => l.length - (intOf i).toNat)
  case atStart => exact ⟨0, by omega, rfl, (Below.refl _ _).alloc (Nat.le_refl _) _, hp.Blk.new _ _ _⟩
  case round =>
    obtain ⟨k, hk, rfl, hb2, hblk⟩ := hrel
    have hz2 := hblk.lt
    have c0 := hblk.cell 0
    have c1 := hblk.cell 1
    have c2 := hblk.cell 2
    have c3 := hblk.cell 3
    have c4 := hblk.cell 4
    simp only [List.getElem?_cons_zero, List.getElem?_cons_succ] at c0 c1 c2 c3 c4
    by_cases hlt : k < l.length
    · obtain ⟨b, off, rfl, hb, hcell⟩ := hc (by omega)
      have hcx : wr.cell? ⟨b, off + k, none⟩ = some (.int .i64 (l.getD k 0)) := (hb2.cell (by simp; omega)).trans ((hw1.cell hb).trans (hcell k hlt))
      clear hc hcell
      go_wp2_with fail
      refine reg.region_tail (C := fun w' => Below (w1.heap.size + 1) wr w') 4 (by kernel_rfl) (by kernel_rfl) ((Below.refl _ _).drew) ?_
      simp only [List.take_succ_cons, List.take_zero, List.drop_succ_cons, List.drop_zero]
      go_big_quiet_want
      refine ⟨mv k (sumOf (l.take k)) (lstOf (l.take k)) (mstOf (l.take k)) (hashOf (l.take k)), fun w' hw' => ?_, ?_⟩
      · have d0 := (hw'.cell (p := ⟨w1.heap.size, 0, none⟩) (by simp)).trans c0
        have d1 := (hw'.cell (p := ⟨w1.heap.size, 1, none⟩) (by simp)).trans c1
        have d2 := (hw'.cell (p := ⟨w1.heap.size, 2, none⟩) (by simp)).trans c2
        have d3 := (hw'.cell (p := ⟨w1.heap.size, 3, none⟩) (by simp)).trans c3
        have d4 := (hw'.cell (p := ⟨w1.heap.size, 4, none⟩) (by simp)).trans c4
        go_simp
      go_simp; go_big_quiet_on
      go_big_quiet_step ((fail))
      go_big_quiet_want
      apply Exists.intro
      refine ⟨fun w' hw' => ?_, ?_⟩
      · go_simp
        go_at_call 9
        exact (one_any _ _).mono fun e w'' ⟨he, hw''⟩ => ⟨he, hw'.trans (hw''.mono (by have := hw'.size; omega))⟩
      go_simp; go_big_quiet_on
      go_big_quiet_want
      apply Exists.intro
      refine ⟨fun w' hw' => ?_, ?_⟩
      · go_simp
        go_at_call 11
        exact (join_any _ _ _ _ _ _ _ _ _ _ _ (by omega)).mono fun e w'' ⟨he, hw''⟩ => ⟨he, hw'.trans (hw''.mono (by have := hw'.size; omega))⟩
      go_simp; go_big_quiet_on
      refine wpQuiet_nil ?_
      intro w2 hw2
      have e0 := (hblk.below hw2 (by simp)).cell 0
      have e1 := (hblk.below hw2 (by simp)).cell 1
      have e2 := (hblk.below hw2 (by simp)).cell 2
      have e3 := (hblk.below hw2 (by simp)).cell 3
      have e4 := (hblk.below hw2 (by simp)).cell 4
      have ef := (hblk.below hw2 (by simp)).free
      simp only [List.getElem?_cons_zero, List.getElem?_cons_succ] at e0 e1 e2 e3 e4
      clear c0 c1 c2 c3 c4
      go_wp2
      go_roundw
      case rel =>
        refine ⟨k + 1, by omega, by go_num, ?_, ?_⟩
        · refine hb2.trans ?_
          refine (hw2.mono (by simp) : Below w1.heap.size wr w2).trans ?_
          ((repeat' (first | with_reducible exact Below.refl _ _ | with_reducible apply Below.setCell | with_reducible apply below_drewN | with_reducible apply Below.drew | with_reducible apply Below.alloc)) <;> (first | (simp; done) | (simp; omega) | omega))
        · have hb3 := hblk.below hw2 (by simp)
          refine (hb3.set5 _ _ _ _ _).cast ?_
          have s1 := take_snoc l k hlt
          have n1 : wrap64 ((k : Int) + 1) = ((k + 1 : Nat) : Int) := by rw [IntWalk.wrap64_in _ ⟨by omega, by omega⟩]; omega
          rw [s1, sum_snoc, least_snoc, most_snoc, hash_snoc]
          simp [n1, List.getElem?_eq_getElem hlt]
      case measure => simp [intOf]; omega
    · obtain rfl : k = l.length := by omega
      rw [List.take_length] at c1 c2 c3 c4
      have e0 := (hk1.below hb2 hz1).cell 0
      have e1 := (hk1.below hb2 hz1).cell 1
      have e2 := (hk1.below hb2 hz1).cell 2
      have e3 := (hk1.below hb2 hz1).cell 3
      have e4 := (hk1.below hb2 hz1).cell 4
      have ef := (hk1.below hb2 hz1).free
      simp only [List.getElem?_cons_zero, List.getElem?_cons_succ] at e0 e1 e2 e3 e4
      have hf := (hk1.below hb2 hz1).set5 (.int .i64 l.length) (.int .i64 (sumOf (l))) (.int .i64 (lstOf (l))) (.int .i64 (mstOf (l))) (.int .i64 (hashOf (l)))
      have f0 := hf.cell 0
      have f1 := hf.cell 1
      have f2 := hf.cell 2
      have f3 := hf.cell 3
      have f4 := hf.cell 4
      simp only [List.getElem?_cons_zero, List.getElem?_cons_succ] at f0 f1 f2 f3 f4
      go_wp2
      refine bodyPost_ret (v := mvOf l.length l) (by simp [results, Try.results10, go_sem, f0, f1, f2, f3, f4]) rfl ⟨rfl, ?_⟩
      refine hw1.trans ((hb2.mono (by omega) : Below w.heap.size w1 wr).trans ?_)
      ((repeat' (first | with_reducible exact Below.refl _ _ | with_reducible apply Below.setCell | with_reducible apply below_drewN | with_reducible apply Below.drew | with_reducible apply Below.alloc)) <;> (first | (simp; done) | (simp; omega) | omega))
end Go.Proofs.Ythjpgcljmbajkaa.mono
