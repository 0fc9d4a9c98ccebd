/- Package left: Len, Spine, Push, Join, Min, Pop. -/
import Derived.Test.YtfaahopabcconaaLefJoin
namespace Go.Proofs.Ytfaahopabcconaa.lef
open Go Go.RowKit
open Go.Proofs.Ytfaahopabcconaa.bin (srt srt_perm srt_len srt_rises rises_one srt_eq srt_of)

abbrev tyH : TypeId := 26

/-- the least one is the first one of the list, rising -/
theorem least_first {x z : Int} {l n tl : List Int} (hs : srt l = z :: tl) (hp : n.Perm l) (hx : x ∈ n) (hl : ∀ y ∈ n, x ≤ y) : x = z := by
  have h1 := srt_rises l
  rw [hs] at h1
  have hz : z ∈ l := (srt_perm l).mem_iff.1 (by rw [hs]; simp)
  have h2 := hl z (hp.mem_iff.2 hz)
  have h3 : x ∈ z :: tl := by
    rw [← hs]
    exact (srt_perm l).mem_iff.2 (hp.mem_iff.1 hx)
  rcases List.mem_cons.1 h3 with h | h
  · exact h
  · have := (List.pairwise_cons.1 h1).1 x h
    omega
/-- a tree of some numbers: its top one, and the others -/
theorem top_of {l tl : List Int} {z : Int} {t : Tr} (hs : srt l = z :: tl) (hp : (nums t).Perm l) (ho : Ok t) : ∃ a b, t = .node z a b ∧ (nums a ++ nums b).Perm tl ∧ Ok a ∧ Ok b := by
  rcases t with _ | ⟨x, a, b⟩
  · have h1 := hp.length_eq
    have h2 := srt_len l
    rw [hs] at h2
    simp [nums] at h1 h2
    omega
  · have hx := least_first hs hp (x := x) (by simp [nums]) ho.top
    subst hx
    refine ⟨a, b, rfl, ?_, ho.2.2.1, ho.2.2.2⟩
    refine List.Perm.cons_inv (a := x) ?_
    rw [← hs]
    exact hp.trans (srt_perm l).symm

/-- a heap goes into a variable of the call's own -/
theorem stored {w W : World} {g : Nat} {a b : Value} {p : Option Addr} {l : List Int} {k : Int} (hk : k = (l.length : Int)) (hR : hp.Blk W g tyH [a, b]) (hg : w.heap.size ≤ g) (hb : Below w.heap.size w W) (h : IsHeap W W.heap.size (rv p l.length) l) :
    ∃ W', (W.setCell ⟨g, 0, none⟩ (.pointer p)).setCell ⟨g, 1, none⟩ (.int .i64 k) = W' ∧ hp.Blk W' g tyH [.pointer p, .int .i64 l.length] ∧ IsHeap W' W'.heap.size (rv p l.length) l ∧ Below w.heap.size w W' ∧ Keep W W' ∧ W'.heap.size = W.heap.size ∧ (∀ b t cs, b ≠ g → hp.Blk W b t cs → hp.Blk W' b t cs) := by
  subst hk
  have hK := (Keep.of_set (o := 0) hR (by decide) (.pointer p)).trans (Keep.of_set (o := 1) (hR.set 0 (.pointer p)) (by decide) (.int .i64 l.length))
  exact ⟨_, rfl, hR.set2 _ _, (h.keep hK).mono (by simp), (hb.setCell (by simpa using hg) _).setCell (by simpa using hg) _, hK, by simp, fun b t cs hne hk => (hk.other hne _).other hne _⟩

set_option maxHeartbeats 4000000 in
theorem len_any (v : Value) (l : List Int) (w : World) (hv : IsHeap w w.heap.size v l) :
    Calls Try.prog 15 #[v] w fun e w' => e = .returned (.int .i64 l.length) ∧ Below w.heap.size w w' := by
  obtain ⟨p, rfl⟩ := hv.val
  clear hv
  go_enter Try.func15, Try.ntmps15
  go_wp2_with fail
  go_ret
  refine ⟨rfl, ?_⟩
  ((repeat' (first | with_reducible exact Below.refl _ _ | with_reducible apply Below.setCell | with_reducible apply below_drewN | with_reducible apply Below.drew | with_reducible apply Below.alloc | with_reducible refine Below.trans ?_ (Below.mono (by assumption) ?_))) <;> (first | (simp; done) | (simp; omega) | omega))

set_option maxHeartbeats 4000000 in
theorem spine_any (v : Value) (l : List Int) (w : World) (hv : IsHeap w w.heap.size v l) :
    Calls Try.prog 18 #[v] w fun e w' => (∃ k : Nat, e = .returned (.int .i64 k) ∧ 2 ^ k ≤ l.length + 1 ∧ (k = 0 ↔ l.length = 0)) ∧ Below w.heap.size w w' := by
  obtain ⟨p, t, rfl, hn, ho, hp, -⟩ := hv
  have hpow := ho.pow
  have hz := spine_zero (t := t)
  rw [hp.length_eq] at hpow hz
  have hl := fun W (hW : Below w.heap.size w W) => length_any (hn.grow hW hW.size)
  obtain ⟨k, hk⟩ : ∃ k, spine t = k := ⟨_, rfl⟩
  rw [hk] at hl hpow hz
  replace hpow := Lib.hid hpow
  clear hn ho hp hk
  go_enter Try.func18, Try.ntmps18
  go_wp2_with (go_at_call 27; with_reducible refine (hl _ ((Below.refl _ _).alloc (Nat.le_refl _) _)).mono ?_; clear hl; rintro e w1 ⟨rfl, hb⟩)
  go_ret
  refine ⟨⟨k, rfl, hpow.out, hz⟩, Below.trans ((Below.refl _ _).alloc (Nat.le_refl _) _) (hb.mono (by simp))⟩

set_option maxHeartbeats 8000000 in
theorem push_any {v : Value} {l : List Int} {x : Int} {w : World} (hv : IsHeap w w.heap.size v l) (hx : (Lit.int .i64 x).wf = true) (hbd : l.length < 4611686018427387900) :
    Calls Try.prog 9 #[v, .int .i64 x] w fun e w' => (∃ q, e = .returned (rv q (l.length + 1)) ∧ IsHeap w' w'.heap.size (rv q (l.length + 1)) (x :: l)) ∧ Below w.heap.size w w' := by
  obtain ⟨p, t, rfl, hn, ho, hpm, hw⟩ := hv
  have hwf : ∀ y ∈ x :: l, (Lit.int .i64 y).wf = true := by
    intro y hy
    rcases List.mem_cons.1 hy with rfl | hy
    · exact hx
    · exact hw y hy
  have hov := fun W (_ : Below w.heap.size w W) => over_to (x := x) (a := .nil) (p := none) (q := none) (L := []) (w := W) rfl (IsTr.nil W) trivial (by simp [nums]) (by simp [nums])
  rw [show (x :: (nums .nil ++ [])) = [x] from rfl] at hov
  have hcl : ∀ (W : World) (u : Option Addr), Below w.heap.size w W → IsTr W (.pointer u) [x] →
      Calls Try.prog 20 #[.pointer p, .pointer u] W fun e w' => (∃ q, e = .returned q ∧ IsTr w' q (x :: l)) ∧ Below W.heap.size W w' := by
    rintro W u hW ⟨_, s, hu, hs, is, hl⟩
    cases hu
    refine (join_any _ t s p u W (Nat.le_refl _) (hn.grow hW hW.size) hs ho is (by have := hpm.length_eq; have := hl.length_eq; simp at this; omega)).mono ?_
    rintro _ _ ⟨⟨u, he, h⟩, hb⟩
    exact ⟨⟨u, he, h.perm ((hpm.append hl).trans (List.perm_append_comm (l₁ := l) (l₂ := [x])))⟩, hb⟩
  have hwr : wrap64 ((l.length : Int) + 1) = ((l.length + 1 : Nat) : Int) := by rw [wrap_small (by omega) (by omega)]; omega
  replace hwr := Lib.hid hwr
  replace hwf := Lib.hid hwf
  have hbd2 : (l.length : Int) < 4611686018427387900 := by omega
  obtain ⟨L, hL⟩ : ∃ L : Int, (l.length : Int) = L := ⟨_, rfl⟩
  rw [hL] at hwr hbd2
  obtain ⟨W0, hW0⟩ : ∃ W0, ((w.alloc (.cells #[.pointer p, .int .i64 L] tyH)).alloc (.cells #[.pointer none, .int .i64 0] tyH)) = W0 := ⟨_, rfl⟩
  have hR : hp.Blk W0 (w.heap.size + 1) tyH [.pointer none, .int .i64 0] := by
    rw [← hW0]
    exact hp.Blk.newAt (by simp)
  have hA : hp.Blk W0 w.heap.size tyH [.pointer p, .int .i64 L] := by
    rw [← hW0]
    exact (hp.Blk.newAt (by simp)).alloc _
  have hb0 : Below w.heap.size w W0 := by
    rw [← hW0]
    ((repeat' (first | with_reducible exact Below.refl _ _ | with_reducible apply Below.setCell | with_reducible apply below_drewN | with_reducible apply Below.drew | with_reducible apply Below.alloc | with_reducible refine Below.trans ?_ (Below.mono (by assumption) ?_))) <;> (first | (simp; done) | (simp; omega) | omega))
  rw [show rv p l.length = .agg #[.pointer p, .int .i64 L] by rw [← hL]]
  replace hL := Lib.hid hL
  clear hn ho hpm hw hx hbd
  go_enter Try.func9, Try.ntmps9
  go_wp2_with fail
  clear hW0
  apply rel.region_tail (C := fun w' => Below W0.heap.size W0 w') (X := fun w w' => Below w.heap.size w w') 8 (by kernel_rfl) (by kernel_rfl) (by kernel_rfl) (by kernel_rfl) ((Below.refl _ _).drew)
  (apply rel.walk_val; (focus (intro wq hq hf; go_wp2; refine ⟨hq, Below.refl _ _, ?_, rfl⟩; (show rel.slot _ _ = _; simp only [rel.slot_lit, List.getD_cons_succ, List.getD_cons_zero]; (first | done | exact rfl)))); (simp only [rel.put_lit, List.set_cons_succ, List.set_cons_zero]))
  ((apply rel.walk_val; (focus (intro wq hq hf; (obtain ⟨d0, d1⟩ := ((hA).below hq (hA).lt).cells2); go_wp2; refine ⟨hq, Below.refl _ _, ?_, rfl⟩; (show rel.slot _ _ = _; simp only [rel.slot_lit, List.getD_cons_succ, List.getD_cons_zero]; (first | done | exact rfl)))); (simp only [rel.put_lit, List.set_cons_succ, List.set_cons_zero])))
  (apply rel.walk_val; (focus (intro wq hq hf; go_wp2; refine ⟨hq, Below.refl _ _, ?_, rfl⟩; (show rel.slot _ _ = _; simp only [rel.slot_lit, List.getD_cons_succ, List.getD_cons_zero]; (first | done | exact rfl)))); (simp only [rel.put_lit, List.set_cons_succ, List.set_cons_zero]))
  (apply rel.walk_rel (fun u w' => lef.IsTr w' u ([x])) ⟨_, rfl⟩ (fun u w1 w2 h1 h2 => h2.on h1); (focus (intro wq hq hf; go_wp2_with (go_at_call 21; with_reducible refine (hov _ (hb0.trans (hq.mono hb0.size))).mono ?_; rintro e w'' ⟨⟨u, rfl, hu⟩, hb⟩); refine ⟨hq.trans (hb.mono hq.size), hb, ?_, rfl⟩; (show lef.IsTr _ (rel.slot _ _) _; simp only [rel.slot_lit, List.getD_cons_succ, List.getD_cons_zero]; exact hu))); (intro u wu _ hu; obtain ⟨pu, t_pu, rfl, -⟩ := hu; (simp only [rel.put_lit, List.set_cons_succ, List.set_cons_zero])))
  (apply rel.walk_rel (fun u w' => lef.IsTr w' u (x :: l)) ⟨_, rfl⟩ (fun u w1 w2 h1 h2 => h2.on h1); (focus (intro wq hq hf; go_wp2_with (go_at_call 20; with_reducible refine (hcl _ _ (hb0.trans (hq.mono hb0.size)) (hf.get 0 rfl rfl)).mono ?_; rintro e w'' ⟨⟨u, rfl, hu⟩, hb⟩); refine ⟨hq.trans (hb.mono hq.size), hb, ?_, rfl⟩; (show lef.IsTr _ (rel.slot _ _) _; simp only [rel.slot_lit, List.getD_cons_succ, List.getD_cons_zero]; exact hu))); (intro u wu _ hu; obtain ⟨pz, t_pz, rfl, -⟩ := hu; (simp only [rel.put_lit, List.set_cons_succ, List.set_cons_zero])))
  (apply rel.walk_val; (focus (intro wq hq hf; go_wp2; refine ⟨hq, Below.refl _ _, ?_, rfl⟩; (show rel.slot _ _ = _; simp only [rel.slot_lit, List.getD_cons_succ, List.getD_cons_zero]; (first | done | exact rfl)))); (simp only [rel.put_lit, List.set_cons_succ, List.set_cons_zero]))
  ((apply rel.walk_val; (focus (intro wq hq hf; (obtain ⟨d0, d1⟩ := ((hA).below hq (hA).lt).cells2); go_wp2; refine ⟨hq, Below.refl _ _, ?_, rfl⟩; (show rel.slot _ _ = _; simp only [rel.slot_lit, List.getD_cons_succ, List.getD_cons_zero]; (first | done | exact rfl)))); (simp only [rel.put_lit, List.set_cons_succ, List.set_cons_zero])))
  (apply rel.walk_val; (focus (intro wq hq hf; go_wp2; refine ⟨hq, Below.refl _ _, ?_, rfl⟩; (show rel.slot _ _ = _; simp only [rel.slot_lit, List.getD_cons_succ, List.getD_cons_zero]; (first | done | exact rfl)))); (simp only [rel.put_lit, List.set_cons_succ, List.set_cons_zero]))
  refine rel.walk_nil ?_
  intro w9 K9 hF
  have hu : IsTr w9 (.pointer pz) (x :: l) := hF _ (List.mem_cons_self ..)
  have hR9 := hR.on K9
  obtain ⟨d0, d1⟩ := hR9.cells2
  have f0 := hR9.free 0
  have f1 := hR9.free 1
  clear hF hov hcl
  simp only [List.drop_succ_cons, List.drop_zero]
  go_wp2_with fail
  rw [hwr.out]
  obtain ⟨W9, hW9, hS, hQ, hB, -⟩ := stored (k := ((l.length + 1 : Nat) : Int)) rfl hR9 (by omega) (hb0.trans (K9.mono hb0.size)) (hu.heap (List.Perm.refl _) hwf.out)
  rw [hW9]
  obtain ⟨g0, g1⟩ := hS.cells2
  refine bodyPost_ret (v := rv pz (l.length + 1)) (by simp [results, Try.results9, go_sem, g0, g1]) rfl ⟨⟨_, rfl, hQ⟩, hB⟩

set_option maxHeartbeats 8000000 in
theorem heap_join {v u : Value} {l m : List Int} {w : World} (hv : IsHeap w w.heap.size v l) (hu : IsHeap w w.heap.size u m) (hbd : l.length + m.length < 4611686018427387900) :
    Calls Try.prog 10 #[v, u] w fun e w' => (∃ q, e = .returned (rv q (l ++ m).length) ∧ IsHeap w' w'.heap.size (rv q (l ++ m).length) (l ++ m)) ∧ Below w.heap.size w w' := by
  obtain ⟨p, t, rfl, hn, ho, hpm, hw⟩ := hv
  obtain ⟨p2, t2, rfl, hn2, ho2, hpm2, hw2⟩ := hu
  have hwf : ∀ y ∈ l ++ m, (Lit.int .i64 y).wf = true := by
    intro y hy
    rcases List.mem_append.1 hy with hy | hy
    · exact hw y hy
    · exact hw2 y hy
  have hcl : ∀ (W : World), Below w.heap.size w W → Calls Try.prog 20 #[.pointer p, .pointer p2] W fun e w' => (∃ q, e = .returned q ∧ IsTr w' q (l ++ m)) ∧ Below W.heap.size W w' := fun W hW =>
    (join_any _ t t2 p p2 W (Nat.le_refl _) (hn.grow hW hW.size) (hn2.grow hW hW.size) ho ho2 (by rw [hpm.length_eq, hpm2.length_eq]; omega)).mono fun _ _ ⟨⟨u, he, hu⟩, hb⟩ => ⟨⟨u, he, hu.perm (hpm.append hpm2)⟩, hb⟩
  have hwr : wrap64 ((l.length : Int) + (m.length : Int)) = ((l ++ m).length : Int) := by rw [wrap_small (by omega) (by omega), List.length_append]; omega
  replace hwr := Lib.hid hwr
  replace hwf := Lib.hid hwf
  have hbd2 : (l.length : Int) + (m.length : Int) < 4611686018427387900 := by omega
  obtain ⟨R, hR⟩ : ∃ R, l ++ m = R := ⟨_, rfl⟩
  rw [hR] at hwr hwf hcl ⊢
  obtain ⟨L, hL⟩ : ∃ L : Int, (l.length : Int) = L := ⟨_, rfl⟩
  obtain ⟨M, hM⟩ : ∃ M : Int, (m.length : Int) = M := ⟨_, rfl⟩
  rw [hL, hM] at hwr hbd2
  obtain ⟨W0, hW0⟩ : ∃ W0, (((w.alloc (.cells #[.pointer p, .int .i64 L] tyH)).alloc (.cells #[.pointer p2, .int .i64 M] tyH)).alloc (.cells #[.pointer none, .int .i64 0] tyH)) = W0 := ⟨_, rfl⟩
  have hR0 : hp.Blk W0 (w.heap.size + 1 + 1) tyH [.pointer none, .int .i64 0] := by
    rw [← hW0]
    exact hp.Blk.newAt (by simp)
  have hA : hp.Blk W0 w.heap.size tyH [.pointer p, .int .i64 L] := by
    rw [← hW0]
    exact ((hp.Blk.newAt (by simp)).alloc _).alloc _
  have hC : hp.Blk W0 (w.heap.size + 1) tyH [.pointer p2, .int .i64 M] := by
    rw [← hW0]
    exact (hp.Blk.newAt (by simp)).alloc _
  have hb0 : Below w.heap.size w W0 := by
    rw [← hW0]
    ((repeat' (first | with_reducible exact Below.refl _ _ | with_reducible apply Below.setCell | with_reducible apply below_drewN | with_reducible apply Below.drew | with_reducible apply Below.alloc | with_reducible refine Below.trans ?_ (Below.mono (by assumption) ?_))) <;> (first | (simp; done) | (simp; omega) | omega))
  rw [show rv p l.length = .agg #[.pointer p, .int .i64 L] by rw [← hL], show rv p2 m.length = .agg #[.pointer p2, .int .i64 M] by rw [← hM]]
  clear hn ho hpm hw hbd hn2 ho2 hpm2 hw2 hR hL hM
  go_enter Try.func10, Try.ntmps10
  go_wp2_with fail
  clear hW0
  apply rel.region_tail (C := fun w' => Below W0.heap.size W0 w') (X := fun w w' => Below w.heap.size w w') 10 (by kernel_rfl) (by kernel_rfl) (by kernel_rfl) (by kernel_rfl) ((Below.refl _ _).drew)
  (apply rel.walk_val; (focus (intro wq hq hf; go_wp2; refine ⟨hq, Below.refl _ _, ?_, rfl⟩; (show rel.slot _ _ = _; simp only [rel.slot_lit, List.getD_cons_succ, List.getD_cons_zero]; (first | done | exact rfl)))); (simp only [rel.put_lit, List.set_cons_succ, List.set_cons_zero]))
  ((apply rel.walk_val; (focus (intro wq hq hf; (obtain ⟨d0, d1⟩ := ((hA).below hq (hA).lt).cells2); go_wp2; refine ⟨hq, Below.refl _ _, ?_, rfl⟩; (show rel.slot _ _ = _; simp only [rel.slot_lit, List.getD_cons_succ, List.getD_cons_zero]; (first | done | exact rfl)))); (simp only [rel.put_lit, List.set_cons_succ, List.set_cons_zero])))
  (apply rel.walk_val; (focus (intro wq hq hf; go_wp2; refine ⟨hq, Below.refl _ _, ?_, rfl⟩; (show rel.slot _ _ = _; simp only [rel.slot_lit, List.getD_cons_succ, List.getD_cons_zero]; (first | done | exact rfl)))); (simp only [rel.put_lit, List.set_cons_succ, List.set_cons_zero]))
  ((apply rel.walk_val; (focus (intro wq hq hf; (obtain ⟨d0, d1⟩ := ((hC).below hq (hC).lt).cells2); go_wp2; refine ⟨hq, Below.refl _ _, ?_, rfl⟩; (show rel.slot _ _ = _; simp only [rel.slot_lit, List.getD_cons_succ, List.getD_cons_zero]; (first | done | exact rfl)))); (simp only [rel.put_lit, List.set_cons_succ, List.set_cons_zero])))
  (apply rel.walk_rel (fun u w' => lef.IsTr w' u (R)) ⟨_, rfl⟩ (fun u w1 w2 h1 h2 => h2.on h1); (focus (intro wq hq hf; go_wp2_with (go_at_call 20; with_reducible refine (hcl _ (hb0.trans (hq.mono hb0.size))).mono ?_; rintro e w'' ⟨⟨u, rfl, hu⟩, hb⟩); refine ⟨hq.trans (hb.mono hq.size), hb, ?_, rfl⟩; (show lef.IsTr _ (rel.slot _ _) _; simp only [rel.slot_lit, List.getD_cons_succ, List.getD_cons_zero]; exact hu))); (intro u wu _ hu; obtain ⟨pz, t_pz, rfl, -⟩ := hu; (simp only [rel.put_lit, List.set_cons_succ, List.set_cons_zero])))
  (apply rel.walk_val; (focus (intro wq hq hf; go_wp2; refine ⟨hq, Below.refl _ _, ?_, rfl⟩; (show rel.slot _ _ = _; simp only [rel.slot_lit, List.getD_cons_succ, List.getD_cons_zero]; (first | done | exact rfl)))); (simp only [rel.put_lit, List.set_cons_succ, List.set_cons_zero]))
  ((apply rel.walk_val; (focus (intro wq hq hf; (obtain ⟨d0, d1⟩ := ((hA).below hq (hA).lt).cells2); go_wp2; refine ⟨hq, Below.refl _ _, ?_, rfl⟩; (show rel.slot _ _ = _; simp only [rel.slot_lit, List.getD_cons_succ, List.getD_cons_zero]; (first | done | exact rfl)))); (simp only [rel.put_lit, List.set_cons_succ, List.set_cons_zero])))
  (apply rel.walk_val; (focus (intro wq hq hf; go_wp2; refine ⟨hq, Below.refl _ _, ?_, rfl⟩; (show rel.slot _ _ = _; simp only [rel.slot_lit, List.getD_cons_succ, List.getD_cons_zero]; (first | done | exact rfl)))); (simp only [rel.put_lit, List.set_cons_succ, List.set_cons_zero]))
  ((apply rel.walk_val; (focus (intro wq hq hf; (obtain ⟨d0, d1⟩ := ((hC).below hq (hC).lt).cells2); go_wp2; refine ⟨hq, Below.refl _ _, ?_, rfl⟩; (show rel.slot _ _ = _; simp only [rel.slot_lit, List.getD_cons_succ, List.getD_cons_zero]; (first | done | exact rfl)))); (simp only [rel.put_lit, List.set_cons_succ, List.set_cons_zero])))
  (apply rel.walk_val; (focus (intro wq hq hf; go_wp2; refine ⟨hq, Below.refl _ _, ?_, rfl⟩; (show rel.slot _ _ = _; simp only [rel.slot_lit, List.getD_cons_succ, List.getD_cons_zero]; (first | done | exact rfl)))); (simp only [rel.put_lit, List.set_cons_succ, List.set_cons_zero]))
  refine rel.walk_nil ?_
  intro w9 K9 hF
  have hu : IsTr w9 (.pointer pz) R := hF _ (List.mem_cons_self ..)
  have hR9 := hR0.on K9
  obtain ⟨d0, d1⟩ := hR9.cells2
  have f0 := hR9.free 0
  have f1 := hR9.free 1
  clear hF hcl
  simp only [List.drop_succ_cons, List.drop_zero]
  go_wp2_with fail
  rw [hwr.out]
  obtain ⟨W9, hW9, hS, hQ, hB, -⟩ := stored rfl hR9 (by omega) (hb0.trans (K9.mono hb0.size)) (hu.heap (List.Perm.refl _) hwf.out)
  rw [hW9]
  obtain ⟨g0, g1⟩ := hS.cells2
  refine bodyPost_ret (v := rv pz R.length) (by simp [results, Try.results10, go_sem, g0, g1]) rfl ⟨⟨_, rfl, hQ⟩, hB⟩

theorem heap_nil {v : Value} {w : World} (hv : IsHeap w w.heap.size v []) : v = rv none 0 := by
  obtain ⟨p, t, rfl, hn, -, hp, -⟩ := hv
  rcases t with _ | ⟨x, a, b⟩
  · obtain rfl : p = none := hn
    rfl
  · have := hp.length_eq
    simp [nums] at this

set_option maxHeartbeats 4000000 in
theorem min_nil {v : Value} {w : World} (hv : IsHeap w w.heap.size v []) :
    Calls Try.prog 16 #[v] w fun e w' => e = .returned (.tuple #[.int .i64 0, .bool false]) ∧ Below w.heap.size w w' := by
  obtain rfl := heap_nil hv
  clear hv
  go_enter Try.func16, Try.ntmps16
  go_wp2_with fail
  go_ret2
  refine ⟨rfl, ?_⟩
  ((repeat' (first | with_reducible exact Below.refl _ _ | with_reducible apply Below.setCell | with_reducible apply below_drewN | with_reducible apply Below.drew | with_reducible apply Below.alloc | with_reducible refine Below.trans ?_ (Below.mono (by assumption) ?_))) <;> (first | (simp; done) | (simp; omega) | omega))

set_option maxHeartbeats 4000000 in
theorem min_cons {v : Value} {l tl : List Int} {z : Int} {w : World} (hv : IsHeap w w.heap.size v l) (hs : srt l = z :: tl) :
    Calls Try.prog 16 #[v] w fun e w' => e = .returned (.tuple #[.int .i64 z, .bool true]) ∧ Below w.heap.size w w' := by
  obtain ⟨p, t, rfl, hn, ho, hpm, -⟩ := hv
  obtain ⟨a, b, rfl, -⟩ := top_of hs hpm ho
  obtain ⟨g, c, d, rfl, hg, hk, -, -⟩ := hn
  have c0 := hk.cell 0
  simp only [List.getElem?_cons_zero] at c0
  clear hs hpm ho hk
  go_enter Try.func16, Try.ntmps16
  go_wp2_with fail
  go_ret2
  refine ⟨rfl, ?_⟩
  ((repeat' (first | with_reducible exact Below.refl _ _ | with_reducible apply Below.setCell | with_reducible apply below_drewN | with_reducible apply Below.drew | with_reducible apply Below.alloc | with_reducible refine Below.trans ?_ (Below.mono (by assumption) ?_))) <;> (first | (simp; done) | (simp; omega) | omega))

set_option maxHeartbeats 4000000 in
theorem pop_nil {v : Value} {w : World} (hv : IsHeap w w.heap.size v []) :
    Calls Try.prog 17 #[v] w fun e w' => e = .returned (.tuple #[.int .i64 0, rv none 0, .bool false]) ∧ Below w.heap.size w w' := by
  obtain rfl := heap_nil hv
  clear hv
  obtain ⟨W0, hW0⟩ : ∃ W0, ((w.alloc (.cells #[.pointer none, .int .i64 0] tyH)).alloc (.cells #[.pointer none, .int .i64 0] tyH)) = W0 := ⟨_, rfl⟩
  have hR : hp.Blk W0 (w.heap.size + 1) tyH [.pointer none, .int .i64 0] := by
    rw [← hW0]
    exact hp.Blk.newAt (by simp)
  have hA : hp.Blk W0 w.heap.size tyH [.pointer none, .int .i64 0] := by
    rw [← hW0]
    exact (hp.Blk.newAt (by simp)).alloc _
  have hb0 : Below w.heap.size w W0 := by
    rw [← hW0]
    ((repeat' (first | with_reducible exact Below.refl _ _ | with_reducible apply Below.setCell | with_reducible apply below_drewN | with_reducible apply Below.drew | with_reducible apply Below.alloc | with_reducible refine Below.trans ?_ (Below.mono (by assumption) ?_))) <;> (first | (simp; done) | (simp; omega) | omega))
  obtain ⟨c0, c1⟩ := hA.cells2
  obtain ⟨d0, d1⟩ := hR.cells2
  have f0 := hR.free 0
  have f1 := hR.free 1
  go_enter Try.func17, Try.ntmps17
  go_wp2_with fail
  obtain ⟨W9, hW9, hS, hQ, hB, -⟩ := stored (k := 0) (l := []) rfl hR (by omega) hb0 (IsHeap.nil _ _)
  rw [hW9]
  obtain ⟨g0, g1⟩ := hS.cells2
  refine bodyPost_ret (v := .tuple #[.int .i64 0, rv none 0, .bool false]) (by simp [results, Try.results17, go_sem, g0, g1]) rfl ⟨rfl, hB⟩

set_option maxHeartbeats 8000000 in
theorem pop_cons {v : Value} {l tl : List Int} {z : Int} {w : World} (hv : IsHeap w w.heap.size v l) (hs : srt l = z :: tl) (hbd : l.length < 4611686018427387900) :
    Calls Try.prog 17 #[v] w fun e w' => (∃ q, e = .returned (.tuple #[.int .i64 z, rv q tl.length, .bool true]) ∧ IsHeap w' w'.heap.size (rv q tl.length) tl) ∧ Below w.heap.size w w' := by
  obtain ⟨p, t, rfl, hn, ho, hpm, hw⟩ := hv
  have hlen := srt_len l
  rw [hs, List.length_cons] at hlen
  have hwt : ∀ x ∈ tl, (Lit.int .i64 x).wf = true := fun x hx => hw x ((srt_perm l).mem_iff.1 (by rw [hs]; simp [hx]))
  obtain ⟨a, b, rfl, hab, oa, ob⟩ := top_of hs hpm ho
  obtain ⟨g, c, d, rfl, hg, hk, ha, hb⟩ := hn
  have hl2 := hab.length_eq
  rw [List.length_append] at hl2
  have hcl : ∀ (W : World), Below w.heap.size w W → Calls Try.prog 20 #[.pointer c, .pointer d] W fun e w' => (∃ q, e = .returned q ∧ IsTr w' q tl) ∧ Below W.heap.size W w' := fun W hW =>
    (join_any _ a b c d W (Nat.le_refl _) (ha.grow hW hW.size) (hb.grow hW hW.size) oa ob (by omega)).mono fun _ _ ⟨⟨u, he, hu⟩, hb⟩ => ⟨⟨u, he, hu.perm hab⟩, hb⟩
  have hwr : (l.length : Int) - 1 = (tl.length : Int) := by omega
  have hbd2 : (l.length : Int) < 4611686018427387900 := by omega
  have hbd3 : 0 < (l.length : Int) := by omega
  replace hwr := Lib.hid hwr
  replace hwt := Lib.hid hwt
  obtain ⟨L, hL⟩ : ∃ L : Int, (l.length : Int) = L := ⟨_, rfl⟩
  rw [hL] at hwr hbd2 hbd3
  obtain ⟨W0, hW0⟩ : ∃ W0, ((w.alloc (.cells #[.pointer (some ⟨g, 0, none⟩), .int .i64 L] tyH)).alloc (.cells #[.pointer none, .int .i64 0] tyH)) = W0 := ⟨_, rfl⟩
  have hR : hp.Blk W0 (w.heap.size + 1) tyH [.pointer none, .int .i64 0] := by
    rw [← hW0]
    exact hp.Blk.newAt (by simp)
  have hA : hp.Blk W0 w.heap.size tyH [.pointer (some ⟨g, 0, none⟩), .int .i64 L] := by
    rw [← hW0]
    exact (hp.Blk.newAt (by simp)).alloc _
  have hb0 : Below w.heap.size w W0 := by
    rw [← hW0]
    ((repeat' (first | with_reducible exact Below.refl _ _ | with_reducible apply Below.setCell | with_reducible apply below_drewN | with_reducible apply Below.drew | with_reducible apply Below.alloc | with_reducible refine Below.trans ?_ (Below.mono (by assumption) ?_))) <;> (first | (simp; done) | (simp; omega) | omega))
  obtain ⟨a0, a1⟩ := hA.cells2
  have hk0 := hk.below hb0 hg
  rw [show rv (some ⟨g, 0, none⟩) l.length = .agg #[.pointer (some ⟨g, 0, none⟩), .int .i64 L] by rw [← hL]]
  clear ho hpm hw hbd hab oa ob ha hb hlen hl2 hs hk hL
  go_enter Try.func17, Try.ntmps17
  go_wp2_with fail
  clear hW0 a0 a1
  apply rel.region_tail (C := fun w' => Below W0.heap.size W0 w') (X := fun w w' => Below w.heap.size w w') 21 (by kernel_rfl) (by kernel_rfl) (by kernel_rfl) (by kernel_rfl) ((Below.refl _ _).drew)
  (apply rel.walk_val; (focus (intro wq hq hf; go_wp2; refine ⟨hq, Below.refl _ _, ?_, rfl⟩; (show rel.slot _ _ = _; simp only [rel.slot_lit, List.getD_cons_succ, List.getD_cons_zero]; (first | done | exact rfl)))); (simp only [rel.put_lit, List.set_cons_succ, List.set_cons_zero]))
  ((apply rel.walk_val; (focus (intro wq hq hf; (obtain ⟨d0, d1⟩ := ((hA).below hq (hA).lt).cells2); go_wp2; refine ⟨hq, Below.refl _ _, ?_, rfl⟩; (show rel.slot _ _ = _; simp only [rel.slot_lit, List.getD_cons_succ, List.getD_cons_zero]; (first | done | exact rfl)))); (simp only [rel.put_lit, List.set_cons_succ, List.set_cons_zero])))
  (apply rel.walk_val; (focus (intro wq hq hf; go_wp2; refine ⟨hq, Below.refl _ _, ?_, rfl⟩; (show rel.slot _ _ = _; simp only [rel.slot_lit, List.getD_cons_succ, List.getD_cons_zero]; (first | done | exact rfl)))); (simp only [rel.put_lit, List.set_cons_succ, List.set_cons_zero]))
  (apply rel.walk_val; (focus (intro wq hq hf; go_wp2; refine ⟨hq, Below.refl _ _, ?_, rfl⟩; (show rel.slot _ _ = _; simp only [rel.slot_lit, List.getD_cons_succ, List.getD_cons_zero]; (first | done | exact rfl)))); (simp only [rel.put_lit, List.set_cons_succ, List.set_cons_zero]))
  ((apply rel.walk_val; (focus (intro wq hq hf; (obtain ⟨d0, d1, d2, d3⟩ := ((hk0).below hq (hk0).lt).cells4); go_wp2; refine ⟨hq, Below.refl _ _, ?_, rfl⟩; (show rel.slot _ _ = _; simp only [rel.slot_lit, List.getD_cons_succ, List.getD_cons_zero]; (first | done | exact rfl)))); (simp only [rel.put_lit, List.set_cons_succ, List.set_cons_zero])))
  (apply rel.walk_val; (focus (intro wq hq hf; go_wp2; refine ⟨hq, Below.refl _ _, ?_, rfl⟩; (show rel.slot _ _ = _; simp only [rel.slot_lit, List.getD_cons_succ, List.getD_cons_zero]; (first | done | exact rfl)))); (simp only [rel.put_lit, List.set_cons_succ, List.set_cons_zero]))
  ((apply rel.walk_val; (focus (intro wq hq hf; (obtain ⟨d0, d1⟩ := ((hA).below hq (hA).lt).cells2); go_wp2; refine ⟨hq, Below.refl _ _, ?_, rfl⟩; (show rel.slot _ _ = _; simp only [rel.slot_lit, List.getD_cons_succ, List.getD_cons_zero]; (first | done | exact rfl)))); (simp only [rel.put_lit, List.set_cons_succ, List.set_cons_zero])))
  (apply rel.walk_val; (focus (intro wq hq hf; go_wp2; refine ⟨hq, Below.refl _ _, ?_, rfl⟩; (show rel.slot _ _ = _; simp only [rel.slot_lit, List.getD_cons_succ, List.getD_cons_zero]; (first | done | exact rfl)))); (simp only [rel.put_lit, List.set_cons_succ, List.set_cons_zero]))
  (apply rel.walk_val; (focus (intro wq hq hf; go_wp2; refine ⟨hq, Below.refl _ _, ?_, rfl⟩; (show rel.slot _ _ = _; simp only [rel.slot_lit, List.getD_cons_succ, List.getD_cons_zero]; (first | done | exact rfl)))); (simp only [rel.put_lit, List.set_cons_succ, List.set_cons_zero]))
  ((apply rel.walk_val; (focus (intro wq hq hf; (obtain ⟨d0, d1, d2, d3⟩ := ((hk0).below hq (hk0).lt).cells4); go_wp2; refine ⟨hq, Below.refl _ _, ?_, rfl⟩; (show rel.slot _ _ = _; simp only [rel.slot_lit, List.getD_cons_succ, List.getD_cons_zero]; (first | done | exact rfl)))); (simp only [rel.put_lit, List.set_cons_succ, List.set_cons_zero])))
  (apply rel.walk_val; (focus (intro wq hq hf; go_wp2; refine ⟨hq, Below.refl _ _, ?_, rfl⟩; (show rel.slot _ _ = _; simp only [rel.slot_lit, List.getD_cons_succ, List.getD_cons_zero]; (first | done | exact rfl)))); (simp only [rel.put_lit, List.set_cons_succ, List.set_cons_zero]))
  ((apply rel.walk_val; (focus (intro wq hq hf; (obtain ⟨d0, d1⟩ := ((hA).below hq (hA).lt).cells2); go_wp2; refine ⟨hq, Below.refl _ _, ?_, rfl⟩; (show rel.slot _ _ = _; simp only [rel.slot_lit, List.getD_cons_succ, List.getD_cons_zero]; (first | done | exact rfl)))); (simp only [rel.put_lit, List.set_cons_succ, List.set_cons_zero])))
  (apply rel.walk_val; (focus (intro wq hq hf; go_wp2; refine ⟨hq, Below.refl _ _, ?_, rfl⟩; (show rel.slot _ _ = _; simp only [rel.slot_lit, List.getD_cons_succ, List.getD_cons_zero]; (first | done | exact rfl)))); (simp only [rel.put_lit, List.set_cons_succ, List.set_cons_zero]))
  (apply rel.walk_val; (focus (intro wq hq hf; go_wp2; refine ⟨hq, Below.refl _ _, ?_, rfl⟩; (show rel.slot _ _ = _; simp only [rel.slot_lit, List.getD_cons_succ, List.getD_cons_zero]; (first | done | exact rfl)))); (simp only [rel.put_lit, List.set_cons_succ, List.set_cons_zero]))
  ((apply rel.walk_val; (focus (intro wq hq hf; (obtain ⟨d0, d1, d2, d3⟩ := ((hk0).below hq (hk0).lt).cells4); go_wp2; refine ⟨hq, Below.refl _ _, ?_, rfl⟩; (show rel.slot _ _ = _; simp only [rel.slot_lit, List.getD_cons_succ, List.getD_cons_zero]; (first | done | exact rfl)))); (simp only [rel.put_lit, List.set_cons_succ, List.set_cons_zero])))
  (apply rel.walk_rel (fun u w' => lef.IsTr w' u (tl)) ⟨_, rfl⟩ (fun u w1 w2 h1 h2 => h2.on h1); (focus (intro wq hq hf; go_wp2_with (go_at_call 20; with_reducible refine (hcl _ (hb0.trans (hq.mono hb0.size))).mono ?_; rintro e w'' ⟨⟨u, rfl, hu⟩, hb⟩); refine ⟨hq.trans (hb.mono hq.size), hb, ?_, rfl⟩; (show lef.IsTr _ (rel.slot _ _) _; simp only [rel.slot_lit, List.getD_cons_succ, List.getD_cons_zero]; exact hu))); (intro u wu _ hu; obtain ⟨pz, t_pz, rfl, -⟩ := hu; (simp only [rel.put_lit, List.set_cons_succ, List.set_cons_zero])))
  (apply rel.walk_val; (focus (intro wq hq hf; go_wp2; refine ⟨hq, Below.refl _ _, ?_, rfl⟩; (show rel.slot _ _ = _; simp only [rel.slot_lit, List.getD_cons_succ, List.getD_cons_zero]; (first | done | exact rfl)))); (simp only [rel.put_lit, List.set_cons_succ, List.set_cons_zero]))
  ((apply rel.walk_val; (focus (intro wq hq hf; (obtain ⟨d0, d1⟩ := ((hA).below hq (hA).lt).cells2); go_wp2; refine ⟨hq, Below.refl _ _, ?_, rfl⟩; (show rel.slot _ _ = _; simp only [rel.slot_lit, List.getD_cons_succ, List.getD_cons_zero]; (first | done | exact rfl)))); (simp only [rel.put_lit, List.set_cons_succ, List.set_cons_zero])))
  (apply rel.walk_val; (focus (intro wq hq hf; go_wp2; refine ⟨hq, Below.refl _ _, ?_, rfl⟩; (show rel.slot _ _ = _; simp only [rel.slot_lit, List.getD_cons_succ, List.getD_cons_zero]; (first | done | exact rfl)))); (simp only [rel.put_lit, List.set_cons_succ, List.set_cons_zero]))
  (apply rel.walk_rel (fun u w' => lef.IsHeap w' w'.heap.size u (tl)) ⟨_, rfl⟩ (fun u w1 w2 h1 h2 => h2.on h1); (focus (intro wq hq hf; have hh0 := (show IsHeap wq wq.heap.size (.agg #[.pointer pz, .int .i64 (L - 1)]) tl from by rw [hwr.out]; exact IsTr.heap (hf.get 0 rfl rfl) (List.Perm.refl _) hwt.out); go_wp2; refine ⟨hq, Below.refl _ _, ?_, rfl⟩; (show lef.IsHeap _ _ (rel.slot _ _) _; simp only [rel.slot_lit, List.getD_cons_succ, List.getD_cons_zero]; exact hh0))); (intro u wu _ hu; obtain ⟨py, t_py, rfl, -⟩ := hu; (simp only [rel.put_lit, List.set_cons_succ, List.set_cons_zero])))
  (apply rel.walk_val; (focus (intro wq hq hf; go_wp2; refine ⟨hq, Below.refl _ _, ?_, rfl⟩; (show rel.slot _ _ = _; simp only [rel.slot_lit, List.getD_cons_succ, List.getD_cons_zero]; (first | done | exact rfl)))); (simp only [rel.put_lit, List.set_cons_succ, List.set_cons_zero]))
  refine rel.walk_nil ?_
  intro w9 K9 hF
  have hu : IsHeap w9 w9.heap.size (rv py tl.length) tl := hF _ (List.mem_cons_self ..)
  have hR9 := hR.on K9
  obtain ⟨d0, d1⟩ := hR9.cells2
  have f0 := hR9.free 0
  have f1 := hR9.free 1
  clear hF hcl
  simp only [List.drop_succ_cons, List.drop_zero]
  go_wp2_with fail
  obtain ⟨W9, hW9, hS, hQ, hB, -⟩ := stored rfl hR9 (by omega) (hb0.trans (K9.mono hb0.size)) hu
  rw [hW9]
  obtain ⟨g0, g1⟩ := hS.cells2
  refine bodyPost_ret (v := .tuple #[.int .i64 z, rv py tl.length, .bool true]) (by simp [results, Try.results17, go_sem, g0, g1]) rfl ⟨⟨_, rfl, hQ⟩, hB⟩
end Go.Proofs.Ytfaahopabcconaa.lef
