/- wattleworkref1: With, Without, Put (sets, with, without a number at a place). -/
import Derived.Test.YtkenocamlaaajaaSame
import Derived.Test.YtkenocamlaaajaaInts
namespace Go.Proofs.Ytkenocamlaaajaa.same
open Go Go.RowKit

/-- a list with one more number at a place -/
def put (l : List Int) (i : Nat) (x : Int) : List Int := l.take i ++ x :: l.drop i
theorem put_perm (l : List Int) (i : Nat) (x : Int) : (put l i x).Perm (x :: l) := by
  refine List.perm_middle.trans ?_
  rw [List.take_append_drop]
theorem put_len (l : List Int) (i : Nat) (x : Int) : (put l i x).length = l.length + 1 := by
  rw [(put_perm l i x).length_eq, List.length_cons]
attribute [-go_sem] sliced in
set_option maxHeartbeats 4000000 in
/-- wattleworkref1.With -/
theorem with_own {v : Value} {l : List Int} {i : Nat} {x : Int} {w : World} (hv : hp.IsInts w w.heap.size v l) (hi : i ≤ l.length) (hx : (Lit.int .i64 x).wf = true) (hbd : l.length < 17592186044416) :
    Calls Try.prog 18 #[v, .int .i64 i, .int .i64 x] w fun e w' => (∃ u, e = .returned u ∧ w'.ownsRow w.heap.size 3 1 u (put l i x).length ((put l i x).map (Value.int .i64))) ∧ Below w.heap.size w w' := by
  have hwf : ∀ y ∈ put l i x, (Lit.int .i64 y).wf = true := fun y hy => by
    rcases List.mem_cons.1 ((put_perm l i x).mem_iff.1 hy) with rfl | hy
    · exact hx
    · exact hv.wf y hy
  have hv' := hv
  obtain ⟨a0, c0, rfl, hcap, -⟩ := hv'
  have s1 := fun W (hW : Below w.heap.size w W) => ((hv.below hW).mono hW.size).sliced (i := 0) (j := i) (Nat.zero_le _) hi
  have s2 := fun W (hW : Below w.heap.size w W) => ((hv.below hW).mono hW.size).from (i := i) hi
  have own0 : w.ownsRow w.heap.size 3 1 (.slice none 0 0) 0 (([] : List Int).map (Value.int .i64)) := World.ownsRow_nil _ _ _ _
  simp only [List.drop_zero] at s1
  have l1 : (l.take i).length = i := by simp; omega
  have l2 : (l.drop i).length = l.length - i := by simp
  generalize hT : l.take i = T at *
  generalize hD : l.drop i = D at *
  clear hv
  replace hwf := Lib.hid hwf
  replace hT := Lib.hid hT
  replace hD := Lib.hid hD
  go_enter Try.func18, Try.ntmps18
  go_wp2_with (at_builtin; refine hp.append_ints rfl _ _ 22 rfl w.heap.size 3 Try.underlying22 infoInt _ 0 [] rfl own0 _ T rfl (s1 _ (Below.refl _ _)) (by omega) (Nat.le_refl _) ?_)
  intro u1 w1 own1 gr1
  have hb1 : Below w.heap.size w w1 := (Below.refl _ _).grown gr1 (Nat.le_refl _) (by simp [Value.ownBlock])
  have hx1 : hp.IsInts (w1.alloc (.cells #[.int .i64 x] 3)) (w1.alloc (.cells #[.int .i64 x] 3)).heap.size (.slice (some ⟨w1.heap.size, 0, none⟩) 1 1) [x] := hp.IsInts.of_owns (hp.row_one w1 x) rfl (by simpa using hx)
  go_wp2_with (at_builtin; refine hp.append_ints rfl _ _ 22 rfl w.heap.size 3 Try.underlying22 infoInt _ i T rfl (own1.alloc _) _ [x] rfl hx1 (by simp; omega) (by have := hb1.size; simp; omega) ?_)
  intro u2 w2 own2 gr2
  have hb2 : Below w.heap.size w w2 := (hb1.alloc hb1.size _).grown gr2 (by have := hb1.size; simp; omega) (fun k hk => (own1.lt k hk).1)
  have own2' : w2.ownsRow w.heap.size 3 1 u2 (i + 1) ((T ++ [x]).map (Value.int .i64)) := by simpa using own2
  go_wp2_with (at_builtin; refine hp.append_ints rfl _ _ 22 rfl w.heap.size 3 Try.underlying22 infoInt _ (i + 1) (T ++ [x]) rfl own2' _ D rfl (s2 _ hb2) (by omega) hb2.size ?_)
  intro u3 w3 own3 gr3
  have hb3 : Below w.heap.size w w3 := hb2.grown gr3 hb2.size (fun k hk => (own2.lt k hk).1)
  go_wp2_with fail
  go_ret
  have he : (T ++ [x]) ++ D = put l i x := by
    unfold put
    rw [hT.out, hD.out]
    simp
  have hn : i + 1 + D.length = (put l i x).length := by rw [put_len]; omega
  have own4 : w3.ownsRow w.heap.size 3 1 u3 (put l i x).length ((put l i x).map (Value.int .i64)) := by
    rw [← hn, ← he]
    simpa [l2] using own3
  exact ⟨⟨_, rfl, own4⟩, hb3⟩
theorem with_any {v : Value} {l : List Int} {i : Nat} {x : Int} {w : World} (hv : hp.IsInts w w.heap.size v l) (hi : i ≤ l.length) (hx : (Lit.int .i64 x).wf = true) (hbd : l.length < 17592186044416) :
    Calls Try.prog 18 #[v, .int .i64 i, .int .i64 x] w fun e w' => (∃ u, e = .returned u ∧ hp.IsInts w' w'.heap.size u (put l i x)) ∧ Below w.heap.size w w' := by
  have hwf : ∀ y ∈ put l i x, (Lit.int .i64 y).wf = true := fun y hy => by
    rcases List.mem_cons.1 ((put_perm l i x).mem_iff.1 hy) with rfl | hy
    · exact hx
    · exact hv.wf y hy
  exact (with_own hv hi hx hbd).mono fun _ _ ⟨⟨u, he, hu⟩, hb⟩ => ⟨⟨u, he, hp.IsInts.of_owns hu rfl hwf⟩, hb⟩
/-- the document's Put -/
theorem set_any {v : Value} {l : List Int} {i : Nat} {x : Int} {w : World} (hv : hp.IsInts w w.heap.size v l) (hi : i < l.length) (hx : (Lit.int .i64 x).wf = true) (hbd : l.length ≤ 17592186044416) :
    Calls Try.prog 14 #[v, .int .i64 i, .int .i64 x] w fun e w' => (∃ u, e = .returned u ∧ hp.IsInts w' w'.heap.size u (l.set i x)) ∧ Below w.heap.size w w' := by
  have hwf : ∀ y ∈ l.set i x, (Lit.int .i64 y).wf = true := fun y hy => by
    rcases List.mem_or_eq_of_mem_set hy with hy | rfl
    · exact hv.wf y hy
    · exact hx
  have hlen := hv.len
  have hcat := same.cat_own v l (.slice none 0 0) [] w hv (hp.IsInts.nil _ _) (by simpa using hbd)
  rw [List.append_nil] at hcat
  clear hv
  go_enter Try.func14, Try.ntmps14
  go_wp2_with (go_at_call 26; refine hcat.mono ?_; rintro e wa ⟨⟨u, rfl, hu⟩, hba⟩; clear hcat; obtain ⟨-, ⟨rfl, h0⟩ | ⟨g, cap, cur, rfl, hgb, hg, hnc, hcm, hcs, htk⟩⟩ := hu; (focus (exfalso; omega)); have hB : hp.Blk wa g 3 cur.toList := (by simpa [hp.Blk] using hg); have e0 := hB.cell i; have e1 := hB.free i; have e2 : i < cur.size := (by omega); simp only [Array.getElem?_toList, Array.getElem?_eq_getElem e2] at e0)
  go_ret
  have h2 := hB.set i (.int .i64 x)
  have hll : i < cur.toList.length := by simpa using e2
  refine ⟨⟨_, rfl, ⟨_, cap, by rw [List.length_set]; rfl, ⟨(fun h => by cases h), by simpa using hnc⟩, by simpa using hlen, hwf, fun _ => ⟨g, 0, rfl, h2.lt, fun k hk => ?_⟩⟩⟩, hba.setCell hgb _⟩
  have hk' : k < l.length := by simpa using hk
  rw [Nat.zero_add, h2.cell k]
  by_cases hki : k = i
  · subst hki
    rw [List.getElem?_set_self hll]
    simp [List.getD, hk']
  · rw [List.getElem?_set_ne (Ne.symm hki)]
    have h1 : (cur.toList.take (l.length * 1))[k]? = (l.map (Value.int .i64))[k]? := by rw [htk]
    rw [List.getElem?_take, if_pos (by omega)] at h1
    rw [h1]
    rw [List.getD_eq_getElem?_getD, List.getElem?_set_ne (Ne.symm hki)]
    simp [hk']


attribute [-go_sem] sliced in
set_option maxHeartbeats 4000000 in
/-- wattleworkref1.Without -/
theorem without_any {v : Value} {l : List Int} {i : Nat} {w : World} (hv : hp.IsInts w w.heap.size v l) (hi : i < l.length) (hbd : l.length ≤ 17592186044416) :
    Calls Try.prog 15 #[v, .int .i64 i] w fun e w' => (∃ u, e = .returned u ∧ hp.IsInts w' w'.heap.size u (l.take i ++ l.drop (i + 1))) ∧ Below w.heap.size w w' := by
  have hwf : ∀ y ∈ l.take i ++ l.drop (i + 1), (Lit.int .i64 y).wf = true := fun y hy => by
    rcases List.mem_append.1 hy with hy | hy
    · exact hv.wf y (List.mem_of_mem_take hy)
    · exact hv.wf y (List.mem_of_mem_drop hy)
  have hv' := hv
  obtain ⟨a0, c0, rfl, hcap, -⟩ := hv'
  have s1 := fun W (hW : Below w.heap.size w W) => ((hv.below hW).mono hW.size).sliced (i := 0) (j := i) (Nat.zero_le _) (by omega)
  have s2 := fun W (hW : Below w.heap.size w W) => ((hv.below hW).mono hW.size).from (i := i + 1) hi
  have own0 : w.ownsRow w.heap.size 3 1 (.slice none 0 0) 0 (([] : List Int).map (Value.int .i64)) := World.ownsRow_nil _ _ _ _
  simp only [List.drop_zero] at s1
  have l1 : (l.take i).length = i := by simp; omega
  have l2 : (l.drop (i + 1)).length = l.length - (i + 1) := by simp
  have hcast : ((i + 1 : Nat) : Int) = (i : Int) + 1 := by omega
  generalize hT : l.take i = T at *
  generalize hD : l.drop (i + 1) = D at *
  clear hv
  replace hwf := Lib.hid hwf
  replace hT := Lib.hid hT
  replace hD := Lib.hid hD
  go_enter Try.func15, Try.ntmps15
  go_wp2_with (at_builtin; refine hp.append_ints rfl _ _ 22 rfl w.heap.size 3 Try.underlying22 infoInt _ 0 [] rfl own0 _ T rfl (s1 _ (Below.refl _ _)) (by omega) (Nat.le_refl _) ?_)
  intro u1 w1 own1 gr1
  have hb1 : Below w.heap.size w w1 := (Below.refl _ _).grown gr1 (Nat.le_refl _) (by simp [Value.ownBlock])
  have own1' : w1.ownsRow w.heap.size 3 1 u1 i (T.map (Value.int .i64)) := by simpa [l1] using own1
  go_wp2_with (at_builtin; refine hp.append_ints rfl _ _ 22 rfl w.heap.size 3 Try.underlying22 infoInt _ i T rfl own1' _ D rfl (s2 _ hb1) (by omega) hb1.size ?_)
  intro u3 w3 own3 gr3
  have hb3 : Below w.heap.size w w3 := hb1.grown gr3 hb1.size (fun k hk => (own1'.lt k hk).1)
  go_wp2_with fail
  go_ret
  have own4 : w3.ownsRow w.heap.size 3 1 u3 (T ++ D).length ((T ++ D).map (Value.int .i64)) := by
    rw [show (T ++ D).length = i + (l.length - (i + 1)) by rw [List.length_append, l1, l2]]
    simpa [l2] using own3
  exact ⟨⟨_, rfl, hp.IsInts.of_owns own4 rfl hwf.out⟩, hb3⟩
end Go.Proofs.Ytkenocamlaaajaa.same
