/- wattleworkref1: With and Sorted. -/
import Derived.Test.YtlaflhnnddfkkaaSame
import Derived.Test.YtlaflhnnddfkkaaInts
import Derived.Test.YtlaflhnnddfkkaaBinMath
namespace Go.Proofs.Ytlaflhnnddfkkaa.same
open Go Go.RowKit

/-- a list with one more number at a place -/
def put (l : List Int) (i : Nat) (x : Int) : List Int := l.take i ++ x :: l.drop i
theorem put_perm (l : List Int) (i : Nat) (x : Int) : (put l i x).Perm (x :: l) := by
  refine List.perm_middle.trans ?_
  rw [List.take_append_drop]
theorem put_len (l : List Int) (i : Nat) (x : Int) : (put l i x).length = l.length + 1 := by
  rw [(put_perm l i x).length_eq, List.length_cons]
theorem put_rises (x : Int) : ∀ {l : List Int}, l.Pairwise (· ≤ ·) → (put l (cnt l x) x).Pairwise (· ≤ ·)
  | [], _ => by simp [put]
  | y :: l, h => by
    obtain ⟨h1, h2⟩ := List.pairwise_cons.1 h
    by_cases hy : y < x
    · have hc : cnt (y :: l) x = cnt l x + 1 := by simp [cnt, List.countP_cons, hy]
      rw [hc]
      show (y :: put l (cnt l x) x).Pairwise _
      refine List.pairwise_cons.2 ⟨fun z hz => ?_, put_rises x h2⟩
      rcases List.mem_cons.1 ((put_perm l _ x).mem_iff.1 hz) with rfl | hz
      · omega
      · exact h1 z hz
    · have hc : cnt (y :: l) x = 0 := by
        unfold cnt
        rw [List.countP_eq_zero]
        intro z hz
        rcases List.mem_cons.1 hz with rfl | hz
        · simpa using hy
        · have := h1 z hz
          simp
          omega
      rw [hc]
      show (x :: y :: l).Pairwise _
      refine List.pairwise_cons.2 ⟨fun z hz => ?_, h⟩
      rcases List.mem_cons.1 hz with rfl | hz
      · omega
      · have := h1 z hz; omega
theorem cnt_le (l : List Int) (x : Int) : cnt l x ≤ l.length := List.countP_le_length
theorem srt_put (t : List Int) (x : Int) : put (bin.srt t) (cnt (bin.srt t) x) x = bin.srt (t ++ [x]) := by
  refine (bin.srt_of (put_rises x (bin.srt_rises t)) ?_).symm
  refine (put_perm _ _ _).trans ?_
  refine (List.Perm.cons x (bin.srt_perm t)).trans ?_
  exact List.perm_append_comm (l₁ := [x]) (l₂ := t)

attribute [-go_sem] sliced in
set_option maxHeartbeats 4000000 in
/-- wattleworkref1.With -/
theorem with_own {v : Value} {l : List Int} {i : Nat} {x : Int} {w : World} (hv : hp.IsInts w w.heap.size v l) (hi : i ≤ l.length) (hx : (Lit.int .i64 x).wf = true) (hbd : l.length < 17592186044416) :
    Calls Try.prog 42 #[v, .int .i64 i, .int .i64 x] w fun e w' => (∃ u, e = .returned u ∧ w'.ownsRow w.heap.size 3 1 u (put l i x).length ((put l i x).map (Value.int .i64))) ∧ Below w.heap.size w w' := by
  have hwf : ∀ y ∈ put l i x, (Lit.int .i64 y).wf = true := fun y hy => by
    rcases List.mem_cons.1 ((put_perm l i x).mem_iff.1 hy) with rfl | hy
    · exact hx
    · exact hv.wf y hy
  have hv' := hv
  obtain ⟨a0, c0, rfl, hcap, -⟩ := hv'
  have s1 := fun W (hW : Below w.heap.size w W) => ((hv.below hW).mono hW.size).sliced (i := 0) (j := i) (Nat.zero_le _) hi
  have s2 := fun W (hW : Below w.heap.size w W) => ((hv.below hW).mono hW.size).from (i := i) hi
  have own0 : w.ownsRow w.heap.size 3 1 (.slice none 0 0) 0 (([] : List Int).map (Value.int .i64)) := World.ownsRow_nil _ _ _ _
  simp only [List.drop_zero] at s1
  have l1 : (l.take i).length = i := by simp; omega
  have l2 : (l.drop i).length = l.length - i := by simp
  generalize hT : l.take i = T at *
  generalize hD : l.drop i = D at *
  clear hv
  replace hwf := Lib.hid hwf
  replace hT := Lib.hid hT
  replace hD := Lib.hid hD
  go_enter Try.func42, Try.ntmps42
  go_wp2_with (at_builtin; refine hp.append_ints rfl _ _ 22 rfl w.heap.size 3 Try.underlying22 infoInt _ 0 [] rfl own0 _ T rfl (s1 _ (Below.refl _ _)) (by omega) (Nat.le_refl _) ?_)
  intro u1 w1 own1 gr1
  have hb1 : Below w.heap.size w w1 := (Below.refl _ _).grown gr1 (Nat.le_refl _) (by simp [Value.ownBlock])
  have hx1 : hp.IsInts (w1.alloc (.cells #[.int .i64 x] 3)) (w1.alloc (.cells #[.int .i64 x] 3)).heap.size (.slice (some ⟨w1.heap.size, 0, none⟩) 1 1) [x] := hp.IsInts.of_owns (hp.row_one w1 x) rfl (by simpa using hx)
  go_wp2_with (at_builtin; refine hp.append_ints rfl _ _ 22 rfl w.heap.size 3 Try.underlying22 infoInt _ i T rfl (own1.alloc _) _ [x] rfl hx1 (by simp; omega) (by have := hb1.size; simp; omega) ?_)
  intro u2 w2 own2 gr2
  have hb2 : Below w.heap.size w w2 := (hb1.alloc hb1.size _).grown gr2 (by have := hb1.size; simp; omega) (fun k hk => (own1.lt k hk).1)
  have own2' : w2.ownsRow w.heap.size 3 1 u2 (i + 1) ((T ++ [x]).map (Value.int .i64)) := by simpa using own2
  go_wp2_with (at_builtin; refine hp.append_ints rfl _ _ 22 rfl w.heap.size 3 Try.underlying22 infoInt _ (i + 1) (T ++ [x]) rfl own2' _ D rfl (s2 _ hb2) (by omega) hb2.size ?_)
  intro u3 w3 own3 gr3
  have hb3 : Below w.heap.size w w3 := hb2.grown gr3 hb2.size (fun k hk => (own2.lt k hk).1)
  go_wp2_with fail
  go_ret
  have he : (T ++ [x]) ++ D = put l i x := by
    unfold put
    rw [hT.out, hD.out]
    simp
  have hn : i + 1 + D.length = (put l i x).length := by rw [put_len]; omega
  have own4 : w3.ownsRow w.heap.size 3 1 u3 (put l i x).length ((put l i x).map (Value.int .i64)) := by
    rw [← hn, ← he]
    simpa [l2] using own3
  exact ⟨⟨_, rfl, own4⟩, hb3⟩
theorem with_any {v : Value} {l : List Int} {i : Nat} {x : Int} {w : World} (hv : hp.IsInts w w.heap.size v l) (hi : i ≤ l.length) (hx : (Lit.int .i64 x).wf = true) (hbd : l.length < 17592186044416) :
    Calls Try.prog 42 #[v, .int .i64 i, .int .i64 x] w fun e w' => (∃ u, e = .returned u ∧ hp.IsInts w' w'.heap.size u (put l i x)) ∧ Below w.heap.size w w' := by
  have hwf : ∀ y ∈ put l i x, (Lit.int .i64 y).wf = true := fun y hy => by
    rcases List.mem_cons.1 ((put_perm l i x).mem_iff.1 hy) with rfl | hy
    · exact hx
    · exact hv.wf y hy
  exact (with_own hv hi hx hbd).mono fun _ _ ⟨⟨u, he, hu⟩, hb⟩ => ⟨⟨u, he, hp.IsInts.of_owns hu rfl hwf⟩, hb⟩
/-- a row of the call's own, from an earlier block on -/
theorem row_base {w : World} {b b' n s : Nat} {e : TypeId} {v : Value} {xs : List Value} (h : w.ownsRow b e s v n xs) (hb : b' ≤ b) : w.ownsRow b' e s v n xs := by
  refine ⟨h.1, ?_⟩
  rcases h.2 with h9 | ⟨g9, cap9, cur9, h1, h2, h3⟩
  · exact .inl h9
  · exact .inr ⟨g9, cap9, cur9, h1, by omega, h3⟩

end Go.Proofs.Ytlaflhnnddfkkaa.same
