/- Package pair: a heap is made of numbers. -/
import Derived.Test.YtnfoadhhgonfkaaParOps
import Derived.Test.YtnfoadhhgonfkaaSame
import Derived.Test.YtnfoadhhgonfkaaInts
namespace Go.Proofs.Ytnfoadhhgonfkaa.par
open Go Go.RowKit

attribute [-go_sem] sliced in
set_option maxHeartbeats 8000000 in
theorem of_tree : ∀ (N : Nat) (l : List Int) (v : Value) (w : World), l.length ≤ N → l.length < 4611686018427387900 → hp.IsInts w w.heap.size v l →
    Calls Try.prog 18 #[v] w fun e w' => (∃ u, e = .returned u ∧ IsTr w' u l) ∧ Below w.heap.size w w' := by
  intro N
  induction N with
  | zero =>
    intro l v w hN hbd hv
    obtain rfl : l = [] := List.eq_nil_of_length_eq_zero (by omega)
    obtain ⟨ad, cap, rfl, -⟩ := hv
    go_enter Try.func18, Try.ntmps18
    go_wp2_with fail
    go_ret
    exact ⟨⟨_, rfl, IsTr.nil _⟩, Below.refl _ _⟩
  | succ N ih =>
    intro l v w hN hbd hv
    rcases l with _ | ⟨x, m⟩
    · clear ih hN
      obtain ⟨ad, cap, rfl, -⟩ := hv
      go_enter Try.func18, Try.ntmps18
      go_wp2_with fail
      go_ret
      exact ⟨⟨_, rfl, IsTr.nil _⟩, Below.refl _ _⟩
    rcases m with _ | ⟨y, m⟩
    · clear ih hN
      obtain ⟨ad, cap, rfl, -, -, -, hc⟩ := hv
      obtain ⟨b, off, rfl, hb, hcell⟩ := hc (by simp)
      have c0 := hcell 0 (by simp)
      simp only [Nat.add_zero, List.getD_cons_zero] at c0
      clear hc hcell hbd
      go_enter Try.func18, Try.ntmps18
      go_wp2_with fail
      go_ret
      exact ⟨⟨_, rfl, IsTr.one (hp.Blk.newAt rfl)⟩, (Below.refl _ _).alloc (Nat.le_refl _) _⟩
    obtain ⟨l, hl⟩ : ∃ l, x :: y :: m = l := ⟨_, rfl⟩
    have h2 : 2 ≤ l.length := by rw [← hl]; simp
    rw [hl] at hN hbd hv ⊢
    clear hl
    obtain ⟨n, hn⟩ : ∃ n, l.length = n := ⟨_, rfl⟩
    obtain ⟨k, hk⟩ : ∃ k, n / 2 = k := ⟨_, rfl⟩
    have hv' := hv
    obtain ⟨ad, cap, rfl, hcap, -⟩ := hv'
    have s1 := fun W (hW : Below w.heap.size w W) => ih (l.take k) _ W (by simp; omega) (by simp; omega) (((hv.below hW).mono hW.size).sliced (i := 0) (j := k) (Nat.zero_le _) (by omega))
    have s2 := fun W (hW : Below w.heap.size w W) => ih (l.drop k) _ W (by simp; omega) (by simp; omega) (((hv.below hW).mono hW.size).from (i := k) (by omega))
    have s3 := fun W p q (hp : IsTr W (.pointer p) (l.take k)) (hq : IsTr W (.pointer q) (l.drop k)) => link_to hp hq
    rw [List.take_append_drop] at s3
    rw [hn] at s2 h2 hcap ⊢
    generalize hT : l.take k = T at *
    generalize hD : l.drop k = D at *
    have hq : ((n : Int)).tdiv 2 = (k : Int) := by rw [Int.tdiv_eq_ediv_of_nonneg (by omega)]; omega
    replace hT := Lib.hid hT
    replace hD := Lib.hid hD
    have hkn : k ≤ n := by omega
    have hn2 : n < 4611686018427387900 := by omega
    clear ih hN hbd hv hn hk
    go_enter Try.func18, Try.ntmps18
    go_wp2_with fail
    apply rel.region_tail (C := fun w' => Below w.heap.size w w') (X := fun w w' => Below w.heap.size w w') 9 (by kernel_rfl) (by kernel_rfl) (by kernel_rfl) (by kernel_rfl) ((Below.refl _ _).drew)
    (apply rel.walk_val; (focus (intro wq hq hf; go_wp2; refine ⟨hq, Below.refl _ _, ?_, rfl⟩; (show rel.slot _ _ = _; simp only [rel.slot_lit, List.getD_cons_succ, List.getD_cons_zero]; (first | done | exact rfl)))); (simp only [rel.put_lit, List.set_cons_succ, List.set_cons_zero]))
    (apply rel.walk_val; (focus (intro wq hq hf; go_wp2; refine ⟨hq, Below.refl _ _, ?_, rfl⟩; (show rel.slot _ _ = _; simp only [rel.slot_lit, List.getD_cons_succ, List.getD_cons_zero]; (first | done | exact rfl)))); (simp only [rel.put_lit, List.set_cons_succ, List.set_cons_zero]))
    (apply rel.walk_val; (focus (intro wq hq hf; go_wp2; refine ⟨hq, Below.refl _ _, ?_, rfl⟩; (show rel.slot _ _ = _; simp only [rel.slot_lit, List.getD_cons_succ, List.getD_cons_zero]; (first | done | exact rfl)))); (simp only [rel.put_lit, List.set_cons_succ, List.set_cons_zero]))
    (apply rel.walk_rel (fun u w' => par.IsTr w' u (T)) ⟨_, rfl⟩ (fun u w1 w2 h1 h2 => h2.on h1); (focus (intro wq hq hf; go_wp2_with (go_at_call 18; with_reducible refine (s1 _ hq).mono ?_; rintro e w'' ⟨⟨u, rfl, hu⟩, hb⟩); refine ⟨hq.trans (hb.mono hq.size), hb, ?_, rfl⟩; (show par.IsTr _ (rel.slot _ _) _; simp only [rel.slot_lit, List.getD_cons_succ, List.getD_cons_zero]; exact hu))); (intro u wu _ hu; obtain ⟨pu, t_pu, rfl, -⟩ := hu; (simp only [rel.put_lit, List.set_cons_succ, List.set_cons_zero])))
    (apply rel.walk_val; (focus (intro wq hq hf; go_wp2; refine ⟨hq, Below.refl _ _, ?_, rfl⟩; (show rel.slot _ _ = _; simp only [rel.slot_lit, List.getD_cons_succ, List.getD_cons_zero]; (first | done | exact rfl)))); (simp only [rel.put_lit, List.set_cons_succ, List.set_cons_zero]))
    (apply rel.walk_val; (focus (intro wq hq hf; go_wp2; refine ⟨hq, Below.refl _ _, ?_, rfl⟩; (show rel.slot _ _ = _; simp only [rel.slot_lit, List.getD_cons_succ, List.getD_cons_zero]; (first | done | exact rfl)))); (simp only [rel.put_lit, List.set_cons_succ, List.set_cons_zero]))
    (apply rel.walk_val; (focus (intro wq hq hf; go_wp2; refine ⟨hq, Below.refl _ _, ?_, rfl⟩; (show rel.slot _ _ = _; simp only [rel.slot_lit, List.getD_cons_succ, List.getD_cons_zero]; (first | done | exact rfl)))); (simp only [rel.put_lit, List.set_cons_succ, List.set_cons_zero]))
    (apply rel.walk_rel (fun u w' => par.IsTr w' u (D)) ⟨_, rfl⟩ (fun u w1 w2 h1 h2 => h2.on h1); (focus (intro wq hq hf; go_wp2_with (go_at_call 18; with_reducible refine (s2 _ hq).mono ?_; rintro e w'' ⟨⟨u, rfl, hu⟩, hb⟩); refine ⟨hq.trans (hb.mono hq.size), hb, ?_, rfl⟩; (show par.IsTr _ (rel.slot _ _) _; simp only [rel.slot_lit, List.getD_cons_succ, List.getD_cons_zero]; exact hu))); (intro u wu _ hu; obtain ⟨pt, t_pt, rfl, -⟩ := hu; (simp only [rel.put_lit, List.set_cons_succ, List.set_cons_zero])))
    (apply rel.walk_rel (fun u w' => par.IsTr w' u (l)) ⟨_, rfl⟩ (fun u w1 w2 h1 h2 => h2.on h1); (focus (intro wq hq hf; go_wp2_with (go_at_call 19; with_reducible refine (s3 _ _ _ (hf.get 1 rfl rfl) (hf.get 0 rfl rfl)).mono ?_; rintro e w'' ⟨⟨u, rfl, hu⟩, hb⟩); refine ⟨hq.trans (hb.mono hq.size), hb, ?_, rfl⟩; (show par.IsTr _ (rel.slot _ _) _; simp only [rel.slot_lit, List.getD_cons_succ, List.getD_cons_zero]; exact hu))); (intro u wu _ hu; obtain ⟨pz, t_pz, rfl, -⟩ := hu; (simp only [rel.put_lit, List.set_cons_succ, List.set_cons_zero])))
    refine rel.walk_nil ?_
    intro w9 K9 hF
    have hu : IsTr w9 (.pointer pz) l := hF _ (List.mem_cons_self ..)
    clear hF
    simp only [List.drop_succ_cons, List.drop_zero]
    go_wp2
    go_ret
    exact ⟨⟨_, rfl, hu⟩, K9⟩

set_option maxHeartbeats 4000000 in
theorem of_any {v : Value} {l : List Int} {w : World} (hv : hp.IsInts w w.heap.size v l) (hbd : l.length < 4611686018427387900) :
    Calls Try.prog 8 #[v] w fun e w' => (∃ q, e = .returned (rv q l.length) ∧ IsHeap w' w'.heap.size (rv q l.length) l) ∧ Below w.heap.size w w' := by
  have hwf := Lib.hid hv.wf
  have hb0 : Below w.heap.size w (w.alloc (.cells #[.pointer none, .int .i64 0] tyH)) := by
    ((repeat' (first | with_reducible exact Below.refl _ _ | with_reducible apply Below.setCell | with_reducible apply below_drewN | with_reducible apply Below.drew | with_reducible apply Below.alloc | with_reducible refine Below.trans ?_ (Below.mono (by assumption) ?_))) <;> (first | (simp; done) | (simp; omega) | omega))
  have hR0 : hp.Blk (w.alloc (.cells #[.pointer none, .int .i64 0] tyH)) w.heap.size tyH [.pointer none, .int .i64 0] := hp.Blk.newAt rfl
  have hof := of_tree _ l v _ (Nat.le_refl _) hbd (hv.on hb0)
  obtain ⟨ad, cap, rfl, -⟩ := hv
  go_enter Try.func8, Try.ntmps8
  go_wp2_with (go_at_call 18; (with_reducible refine hof.mono ?_); clear hof; rintro e w1 ⟨⟨u, rfl, hu⟩, hb1⟩; have hR := hR0.on hb1; have hb2 := hb0.trans (hb1.mono hb0.size); have hu2 := hu; obtain ⟨p, t, rfl, -⟩ := hu2; obtain ⟨d0, d1⟩ := hR.cells2; have f0 := hR.free 0; have f1 := hR.free 1; clear hb1 hR0 hb0)
  obtain ⟨W9, hW9, hS, hQ, hB, -⟩ := stored rfl hR (Nat.le_refl _) hb2 (hu.heap (List.Perm.refl _) hwf.out)
  rw [hW9]
  obtain ⟨g0, g1⟩ := hS.cells2
  refine bodyPost_ret (v := rv p l.length) (by simp [results, Try.results8, go_sem, g0, g1]) rfl ⟨⟨_, rfl, hQ⟩, hB⟩
end Go.Proofs.Ytnfoadhhgonfkaa.par
