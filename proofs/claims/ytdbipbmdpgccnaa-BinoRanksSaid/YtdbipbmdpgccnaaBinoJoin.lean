/- Package bino: two rows are joined. -/
import Derived.Test.YtdbipbmdpgccnaaBinoAdd
namespace Go.Proofs.Ytdbipbmdpgccnaa.bin
open Go Go.RowKit

theorem IsRw.perm {w : World} {u : Value} {m : Nat} {l l' : List Int} (h : IsRw w u m l) (hp : l.Perm l') : IsRw w u m l' := by
  obtain ⟨p, r, hu, hn, hi, hl⟩ := h
  exact ⟨p, r, hu, hn, hi, hl.trans hp⟩
theorem IsRw.mono {w : World} {u : Value} {m m' : Nat} {l : List Int} (h : IsRw w u m l) (hm : m' ≤ m) : IsRw w u m' l := by
  obtain ⟨p, r, hu, hn, hi, hl⟩ := h
  exact ⟨p, r, hu, hn, hi.mono hm, hl⟩
theorem IsRw.cons {w : World} {g m k : Nat} {x : Int} {b : Rw} {t q : Option Addr} {l : List Int} (hg : hp.Blk w g tyR [.pointer t, .pointer q]) (ht : Tre w.heap.size w x k b t) (h : IsRw w (.pointer q) (k + 1) l) (hm : m ≤ k) (hb : Ok k x b) : IsRw w (.pointer (some ⟨g, 0, none⟩)) m ((x :: nums b) ++ l) := by
  obtain ⟨p, r, hu, hn, hi, hl⟩ := h
  cases hu
  exact ⟨_, .cons x k b r, rfl, Row.mk hg ht hn, ⟨hm, hb, hi⟩, (hl.append_left (x :: nums b))⟩
theorem add_to {x : Int} {k : Nat} {b : Rw} {p t : Option Addr} {l : List Int} {w : World} (hr : IsRw w (.pointer p) k l) (ht : IsTr w (.pointer t) x k b) (hb : Ok k x b) (hs : l.length + ((nums b).length + 1) < 4611686018427387904) :
    Calls Try.prog 19 #[.pointer p, .pointer t] w fun e w' => (∃ u, e = .returned u ∧ IsRw w' u k (l ++ (x :: nums b))) ∧ Below w.heap.size w w' := by
  obtain ⟨p', r, hu, hn, hi, hl⟩ := hr
  obtain ⟨t', hu', ht⟩ := ht
  cases hu
  cases hu'
  exact (add_any hn ht hi hb (by rw [hl.length_eq]; exact hs)).mono fun _ _ ⟨⟨u, he, h⟩, hb⟩ => ⟨⟨u, he, h.perm (hl.append_right _)⟩, hb⟩

set_option maxHeartbeats 8000000 in
theorem join_any : ∀ (n : Nat) (r s : Rw) (p q : Option Addr) (m : Nat) (w : World), (ranks r).length + (ranks s).length ≤ n → Row w.heap.size w r p → Row w.heap.size w s q → Inc m r → Inc m s → (nums r).length + (nums s).length < 4611686018427387904 →
    Calls Try.prog 20 #[.pointer p, .pointer q] w fun e w' => (∃ u, e = .returned u ∧ IsRw w' u m (nums r ++ nums s)) ∧ Below w.heap.size w w' := by
  intro N
  induction N with
  | zero =>
    rintro r s p q m w hN hr hs ir is -
    rcases r with _ | ⟨x, k, b, r⟩
    · have hs' := hs
      obtain rfl : p = none := hr
      have hd : IsRw w (.pointer q) m (nums .nil ++ nums s) := ⟨q, s, rfl, hs, is, List.Perm.refl _⟩
      go_enter Try.func20, Try.ntmps20
      go_wp2_with fail
      go_ret
      exact ⟨⟨_, rfl, hd⟩, Below.refl _ _⟩
    · simp [ranks] at hN
  | succ N ih =>
    intro r s p q m w hN hr hs ir is hsz
    rcases r with _ | ⟨x, k, b, r⟩
    · obtain rfl : p = none := hr
      have hd : IsRw w (.pointer q) m (nums .nil ++ nums s) := ⟨q, s, rfl, hs, is, List.Perm.refl _⟩
      clear ih hN hs
      go_enter Try.func20, Try.ntmps20
      go_wp2_with fail
      go_ret
      exact ⟨⟨_, rfl, hd⟩, Below.refl _ _⟩
    rcases s with _ | ⟨y, j, c, s⟩
    · obtain rfl : q = none := hs
      have hd : IsRw w (.pointer p) m (nums (.cons x k b r) ++ nums .nil) := ⟨p, _, rfl, hr, ir, by rw [show nums Rw.nil = [] from rfl, List.append_nil]⟩
      obtain ⟨g, h, cb, p2, rfl, hg, hv, hh, hu, hb, hn⟩ := hr
      clear ih hN hsz ir is hv hu hb hn
      go_enter Try.func20, Try.ntmps20
      go_wp2_with fail
      go_ret
      exact ⟨⟨_, rfl, hd⟩, Below.refl _ _⟩
    have hr0 := hr
    have hs0 := hs
    obtain ⟨g, h, cb, p2, rfl, hg, hv, hh, hu, hb, hn⟩ := hr
    obtain ⟨g', h', cc, q2, rfl, hg', hv', hh', hu', hc, hn'⟩ := hs
    obtain ⟨i1, i2, i3⟩ := ir
    obtain ⟨j1, j2, j3⟩ := is
    have c0 := hv.cell 0
    have c1 := hv.cell 1
    have d0 := hv'.cell 0
    have d1 := hv'.cell 1
    have e1 := hu.cell 1
    have f1 := hu'.cell 1
    simp only [List.getElem?_cons_zero, List.getElem?_cons_succ] at c0 c1 d0 d1 e1 f1
    have htx : Tre w.heap.size w x k b (some ⟨h, 0, none⟩) := ⟨h, cb, rfl, hh, hu, hb⟩
    have hty : Tre w.heap.size w y j c (some ⟨h', 0, none⟩) := ⟨h', cc, rfl, hh', hu', hc⟩
    have nx : nums (.cons x k b r) = (x :: nums b) ++ nums r := rfl
    have ny : nums (.cons y j c s) = (y :: nums c) ++ nums s := rfl
    rw [nx, ny] at hsz ⊢
    simp only [ranks, List.length_cons] at hN
    simp only [List.length_append, List.length_cons] at hsz
    clear hv hv' hu hu'
    rcases Nat.lt_trichotomy k j with hlt | rfl | hlt
    · have hcl := fun W (hW : Below w.heap.size w W) => ih r (.cons y j c s) p2 _ (k + 1) W (by simp only [ranks, List.length_cons]; omega) (hn.grow hW hW.size) (hs0.grow hW hW.size) i3 ⟨by omega, j2, j3⟩ (by rw [ny]; simp only [List.length_append, List.length_cons]; omega)
      have hdone : Hid (∀ (W : World) (G : Nat) (pu : Option Addr), Below w.heap.size w W → hp.Blk W G tyR [.pointer (some ⟨h, 0, none⟩), .pointer pu] → IsRw W (.pointer pu) (k + 1) (nums r ++ nums (.cons y j c s)) → IsRw W (.pointer (some ⟨G, 0, none⟩)) m (((x :: nums b) ++ nums r) ++ ((y :: nums c) ++ nums s))) := by
        intro W G pu hW hG hu
        refine (IsRw.cons hG (htx.on hW) hu (by omega) i2).perm ?_
        rw [ny]
        generalize (x :: nums b) = X
        simp
      have hKJ : (k : Int) < (j : Int) := by omega
      generalize (k : Int) = K at *
      generalize (j : Int) = J at *
      clear ih i1 i2 i3 j1 j2 j3 hr0 hs0 hN hsz nx ny
      go_enter Try.func20, Try.ntmps20
      go_wp2_with fail
      go_big_region
      go_wp2_with fail
      apply rel.region_tail (C := fun w' => Below w.heap.size w w') (X := fun w w' => Below w.heap.size w w') 10 (by kernel_rfl) (by kernel_rfl) (by kernel_rfl) (by kernel_rfl) ((Below.refl _ _).drew.drew)
      (apply rel.walk_val; (focus (intro wq hq hf; go_wp2; refine ⟨hq, Below.refl _ _, ?_, rfl⟩; (show rel.slot _ _ = _; simp only [rel.slot_lit, List.getD_cons_succ, List.getD_cons_zero]; (first | done | exact rfl)))); (simp only [rel.put_lit, List.set_cons_succ, List.set_cons_zero]))
      (apply rel.walk_val; (focus (intro wq hq hf; go_wp2; refine ⟨hq, Below.refl _ _, ?_, rfl⟩; (show rel.slot _ _ = _; simp only [rel.slot_lit, List.getD_cons_succ, List.getD_cons_zero]; (first | done | exact rfl)))); (simp only [rel.put_lit, List.set_cons_succ, List.set_cons_zero]))
      (apply rel.walk_val; (focus (intro wq hq hf; go_wp2; refine ⟨hq, Below.refl _ _, ?_, rfl⟩; (show rel.slot _ _ = _; simp only [rel.slot_lit, List.getD_cons_succ, List.getD_cons_zero]; (first | done | exact rfl)))); (simp only [rel.put_lit, List.set_cons_succ, List.set_cons_zero]))
      ((apply rel.walk_val; (focus (intro wq hq hf; (have d0 := (hq.cell (p := ⟨g, 0, none⟩) hg).trans c0); go_wp2; refine ⟨hq, Below.refl _ _, ?_, rfl⟩; (show rel.slot _ _ = _; simp only [rel.slot_lit, List.getD_cons_succ, List.getD_cons_zero]; (first | done | exact rfl)))); (simp only [rel.put_lit, List.set_cons_succ, List.set_cons_zero])))
      (apply rel.walk_val; (focus (intro wq hq hf; go_wp2; refine ⟨hq, Below.refl _ _, ?_, rfl⟩; (show rel.slot _ _ = _; simp only [rel.slot_lit, List.getD_cons_succ, List.getD_cons_zero]; (first | done | exact rfl)))); (simp only [rel.put_lit, List.set_cons_succ, List.set_cons_zero]))
      (apply rel.walk_val; (focus (intro wq hq hf; go_wp2; refine ⟨hq, Below.refl _ _, ?_, rfl⟩; (show rel.slot _ _ = _; simp only [rel.slot_lit, List.getD_cons_succ, List.getD_cons_zero]; (first | done | exact rfl)))); (simp only [rel.put_lit, List.set_cons_succ, List.set_cons_zero]))
      (apply rel.walk_val; (focus (intro wq hq hf; go_wp2; refine ⟨hq, Below.refl _ _, ?_, rfl⟩; (show rel.slot _ _ = _; simp only [rel.slot_lit, List.getD_cons_succ, List.getD_cons_zero]; (first | done | exact rfl)))); (simp only [rel.put_lit, List.set_cons_succ, List.set_cons_zero]))
      ((apply rel.walk_val; (focus (intro wq hq hf; (have d0 := (hq.cell (p := ⟨g, 1, none⟩) hg).trans c1); go_wp2; refine ⟨hq, Below.refl _ _, ?_, rfl⟩; (show rel.slot _ _ = _; simp only [rel.slot_lit, List.getD_cons_succ, List.getD_cons_zero]; (first | done | exact rfl)))); (simp only [rel.put_lit, List.set_cons_succ, List.set_cons_zero])))
      (apply rel.walk_val; (focus (intro wq hq hf; go_wp2; refine ⟨hq, Below.refl _ _, ?_, rfl⟩; (show rel.slot _ _ = _; simp only [rel.slot_lit, List.getD_cons_succ, List.getD_cons_zero]; (first | done | exact rfl)))); (simp only [rel.put_lit, List.set_cons_succ, List.set_cons_zero]))
      (apply rel.walk_rel (fun u w' => bin.IsRw w' u (k + 1) (nums r ++ nums (.cons y j c s))) ⟨_, rfl⟩ (fun u w1 w2 h1 h2 => h2.on h1); (focus (intro wq hq hf; go_wp2_with (go_at_call 20; with_reducible refine (hcl _ hq).mono ?_; rintro e w'' ⟨⟨u, rfl, hu⟩, hb⟩); refine ⟨hq.trans (hb.mono hq.size), hb, ?_, rfl⟩; (show bin.IsRw _ (rel.slot _ _) _ _; simp only [rel.slot_lit, List.getD_cons_succ, List.getD_cons_zero]; exact hu))); (intro u wu _ hu; obtain ⟨pu, r_pu, rfl, -⟩ := hu; (simp only [rel.put_lit, List.set_cons_succ, List.set_cons_zero])))
      refine rel.walk_nil ?_
      intro w9 K9 hF
      have hu : IsRw w9 (.pointer pu) (k + 1) (nums r ++ nums (.cons y j c s)) := hF _ (List.mem_cons_self ..)
      clear hF
      simp only [List.drop_succ_cons, List.drop_zero]
      go_wp2
      go_ret
      have hbz : Below w9.heap.size w9 (w9.alloc (.cells #[.pointer (some ⟨h, 0, none⟩), .pointer pu] tyR)) := by
        ((repeat' (first | with_reducible exact Below.refl _ _ | with_reducible apply Below.setCell | with_reducible apply below_drewN | with_reducible apply Below.drew | with_reducible apply Below.alloc | with_reducible refine Below.trans ?_ (Below.mono (by assumption) ?_))) <;> (first | (simp; done) | (simp; omega) | omega))
      have hb0 := K9.trans (hbz.mono K9.size)
      exact ⟨⟨_, rfl, hdone.out _ _ _ hb0 (hp.Blk.newAt (cs := [.pointer (some ⟨h, 0, none⟩), .pointer pu]) rfl) (hu.on hbz)⟩, hb0⟩
    · have hcl := fun W (hW : Below w.heap.size w W) => ih r s p2 q2 (k + 1) W (by omega) (hn.grow hW hW.size) (hn'.grow hW hW.size) i3 j3 (by omega)
      have hk62 : k < 62 := rank_small i2 (by omega)
      have hlk := fun W (hW : Below w.heap.size w W) => link_to (htx.on hW) (hty.on hW) hk62
      obtain ⟨z, d, hzd⟩ : ∃ z d, lnk x y k b c = (z, d) := ⟨_, _, rfl⟩
      have hzp := lnk_nums x y k b c
      have hzo := lnk_ok i2 j2
      rw [hzd] at hzp hzo hlk
      simp only at hzp hzo hlk
      have hzl : (nums d).length + 1 = (nums b).length + 1 + ((nums c).length + 1) := by
        have := hzp.length_eq
        simp only [List.length_append, List.length_cons] at this
        omega
      have had := fun W (P T : Option Addr) (hP : IsRw W (.pointer P) (k + 1) (nums r ++ nums s)) (hT : IsTr W (.pointer T) z (k + 1) d) => add_to hP hT hzo (by rw [List.length_append]; omega)
      have hdone : Hid (∀ (W : World) (u : Value), IsRw W u (k + 1) ((nums r ++ nums s) ++ (z :: nums d)) → IsRw W u m (((x :: nums b) ++ nums r) ++ ((y :: nums c) ++ nums s))) := by
        intro W u hu
        refine (hu.mono (by omega)).perm ?_
        refine (hzp.append_left _).trans ?_
        generalize (x :: nums b) = X
        generalize (y :: nums c) = Y
        refine List.perm_append_comm.trans ?_
        simp only [List.append_assoc]
        refine List.Perm.append_left X ?_
        exact List.perm_append_comm_assoc _ _ _
      have hKK : ¬ ((k : Int) < (k : Int)) := by omega
      generalize (k : Int) = K at *
      clear ih i1 i2 i3 j1 j2 j3 hr0 hs0 hN hsz nx ny hzp hzl hk62 hzd
      go_enter Try.func20, Try.ntmps20
      go_wp2_with fail
      go_big_region
      go_wp2_with fail
      go_big_region
      go_wp2_with fail
      apply rel.region_tail (C := fun w' => Below w.heap.size w w') (X := fun w w' => Below w.heap.size w w') 19 (by kernel_rfl) (by kernel_rfl) (by kernel_rfl) (by kernel_rfl) ((Below.refl _ _).drew.drew.drew)
      (apply rel.walk_val; (focus (intro wq hq hf; go_wp2; refine ⟨hq, Below.refl _ _, ?_, rfl⟩; (show rel.slot _ _ = _; simp only [rel.slot_lit, List.getD_cons_succ, List.getD_cons_zero]; (first | done | exact rfl)))); (simp only [rel.put_lit, List.set_cons_succ, List.set_cons_zero]))
      (apply rel.walk_val; (focus (intro wq hq hf; go_wp2; refine ⟨hq, Below.refl _ _, ?_, rfl⟩; (show rel.slot _ _ = _; simp only [rel.slot_lit, List.getD_cons_succ, List.getD_cons_zero]; (first | done | exact rfl)))); (simp only [rel.put_lit, List.set_cons_succ, List.set_cons_zero]))
      (apply rel.walk_val; (focus (intro wq hq hf; go_wp2; refine ⟨hq, Below.refl _ _, ?_, rfl⟩; (show rel.slot _ _ = _; simp only [rel.slot_lit, List.getD_cons_succ, List.getD_cons_zero]; (first | done | exact rfl)))); (simp only [rel.put_lit, List.set_cons_succ, List.set_cons_zero]))
      ((apply rel.walk_val; (focus (intro wq hq hf; (have d0 := (hq.cell (p := ⟨g, 1, none⟩) hg).trans c1); go_wp2; refine ⟨hq, Below.refl _ _, ?_, rfl⟩; (show rel.slot _ _ = _; simp only [rel.slot_lit, List.getD_cons_succ, List.getD_cons_zero]; (first | done | exact rfl)))); (simp only [rel.put_lit, List.set_cons_succ, List.set_cons_zero])))
      (apply rel.walk_val; (focus (intro wq hq hf; go_wp2; refine ⟨hq, Below.refl _ _, ?_, rfl⟩; (show rel.slot _ _ = _; simp only [rel.slot_lit, List.getD_cons_succ, List.getD_cons_zero]; (first | done | exact rfl)))); (simp only [rel.put_lit, List.set_cons_succ, List.set_cons_zero]))
      (apply rel.walk_val; (focus (intro wq hq hf; go_wp2; refine ⟨hq, Below.refl _ _, ?_, rfl⟩; (show rel.slot _ _ = _; simp only [rel.slot_lit, List.getD_cons_succ, List.getD_cons_zero]; (first | done | exact rfl)))); (simp only [rel.put_lit, List.set_cons_succ, List.set_cons_zero]))
      (apply rel.walk_val; (focus (intro wq hq hf; go_wp2; refine ⟨hq, Below.refl _ _, ?_, rfl⟩; (show rel.slot _ _ = _; simp only [rel.slot_lit, List.getD_cons_succ, List.getD_cons_zero]; (first | done | exact rfl)))); (simp only [rel.put_lit, List.set_cons_succ, List.set_cons_zero]))
      ((apply rel.walk_val; (focus (intro wq hq hf; (have d0 := (hq.cell (p := ⟨g', 1, none⟩) hg').trans d1); go_wp2; refine ⟨hq, Below.refl _ _, ?_, rfl⟩; (show rel.slot _ _ = _; simp only [rel.slot_lit, List.getD_cons_succ, List.getD_cons_zero]; (first | done | exact rfl)))); (simp only [rel.put_lit, List.set_cons_succ, List.set_cons_zero])))
      (apply rel.walk_rel (fun u w' => bin.IsRw w' u (k + 1) (nums r ++ nums s)) ⟨_, rfl⟩ (fun u w1 w2 h1 h2 => h2.on h1); (focus (intro wq hq hf; go_wp2_with (go_at_call 20; with_reducible refine (hcl _ hq).mono ?_; rintro e w'' ⟨⟨u, rfl, hu⟩, hb⟩); refine ⟨hq.trans (hb.mono hq.size), hb, ?_, rfl⟩; (show bin.IsRw _ (rel.slot _ _) _ _; simp only [rel.slot_lit, List.getD_cons_succ, List.getD_cons_zero]; exact hu))); (intro u wu _ hu; obtain ⟨pu, r_pu, rfl, -⟩ := hu; (simp only [rel.put_lit, List.set_cons_succ, List.set_cons_zero])))
      (apply rel.walk_val; (focus (intro wq hq hf; go_wp2; refine ⟨hq, Below.refl _ _, ?_, rfl⟩; (show rel.slot _ _ = _; simp only [rel.slot_lit, List.getD_cons_succ, List.getD_cons_zero]; (first | done | exact rfl)))); (simp only [rel.put_lit, List.set_cons_succ, List.set_cons_zero]))
      (apply rel.walk_val; (focus (intro wq hq hf; go_wp2; refine ⟨hq, Below.refl _ _, ?_, rfl⟩; (show rel.slot _ _ = _; simp only [rel.slot_lit, List.getD_cons_succ, List.getD_cons_zero]; (first | done | exact rfl)))); (simp only [rel.put_lit, List.set_cons_succ, List.set_cons_zero]))
      (apply rel.walk_val; (focus (intro wq hq hf; go_wp2; refine ⟨hq, Below.refl _ _, ?_, rfl⟩; (show rel.slot _ _ = _; simp only [rel.slot_lit, List.getD_cons_succ, List.getD_cons_zero]; (first | done | exact rfl)))); (simp only [rel.put_lit, List.set_cons_succ, List.set_cons_zero]))
      ((apply rel.walk_val; (focus (intro wq hq hf; (have d0 := (hq.cell (p := ⟨g, 0, none⟩) hg).trans c0); go_wp2; refine ⟨hq, Below.refl _ _, ?_, rfl⟩; (show rel.slot _ _ = _; simp only [rel.slot_lit, List.getD_cons_succ, List.getD_cons_zero]; (first | done | exact rfl)))); (simp only [rel.put_lit, List.set_cons_succ, List.set_cons_zero])))
      (apply rel.walk_val; (focus (intro wq hq hf; go_wp2; refine ⟨hq, Below.refl _ _, ?_, rfl⟩; (show rel.slot _ _ = _; simp only [rel.slot_lit, List.getD_cons_succ, List.getD_cons_zero]; (first | done | exact rfl)))); (simp only [rel.put_lit, List.set_cons_succ, List.set_cons_zero]))
      (apply rel.walk_val; (focus (intro wq hq hf; go_wp2; refine ⟨hq, Below.refl _ _, ?_, rfl⟩; (show rel.slot _ _ = _; simp only [rel.slot_lit, List.getD_cons_succ, List.getD_cons_zero]; (first | done | exact rfl)))); (simp only [rel.put_lit, List.set_cons_succ, List.set_cons_zero]))
      (apply rel.walk_val; (focus (intro wq hq hf; go_wp2; refine ⟨hq, Below.refl _ _, ?_, rfl⟩; (show rel.slot _ _ = _; simp only [rel.slot_lit, List.getD_cons_succ, List.getD_cons_zero]; (first | done | exact rfl)))); (simp only [rel.put_lit, List.set_cons_succ, List.set_cons_zero]))
      ((apply rel.walk_val; (focus (intro wq hq hf; (have d0 := (hq.cell (p := ⟨g', 0, none⟩) hg').trans d0); go_wp2; refine ⟨hq, Below.refl _ _, ?_, rfl⟩; (show rel.slot _ _ = _; simp only [rel.slot_lit, List.getD_cons_succ, List.getD_cons_zero]; (first | done | exact rfl)))); (simp only [rel.put_lit, List.set_cons_succ, List.set_cons_zero])))
      (apply rel.walk_rel (fun u w' => bin.IsTr w' u (z) (k + 1) (d)) ⟨_, rfl⟩ (fun u w1 w2 h1 h2 => h2.on h1); (focus (intro wq hq hf; go_wp2_with (go_at_call 29; with_reducible refine (hlk _ hq).mono ?_; rintro e w'' ⟨⟨u, rfl, hu⟩, hb⟩); refine ⟨hq.trans (hb.mono hq.size), hb, ?_, rfl⟩; (show bin.IsTr _ (rel.slot _ _) _ _ _; simp only [rel.slot_lit, List.getD_cons_succ, List.getD_cons_zero]; exact hu))); (intro u wu _ hu; obtain ⟨pt, rfl, -⟩ := hu; (simp only [rel.put_lit, List.set_cons_succ, List.set_cons_zero])))
      (apply rel.walk_rel (fun u w' => bin.IsRw w' u (k + 1) ((nums r ++ nums s) ++ (z :: nums d))) ⟨_, rfl⟩ (fun u w1 w2 h1 h2 => h2.on h1); (focus (intro wq hq hf; go_wp2_with (go_at_call 19; with_reducible refine (had _ _ _ (hf.get 1 rfl rfl) (hf.get 0 rfl rfl)).mono ?_; rintro e w'' ⟨⟨u, rfl, hu⟩, hb⟩); refine ⟨hq.trans (hb.mono hq.size), hb, ?_, rfl⟩; (show bin.IsRw _ (rel.slot _ _) _ _; simp only [rel.slot_lit, List.getD_cons_succ, List.getD_cons_zero]; exact hu))); (intro u wu _ hu; obtain ⟨pz, r_pz, rfl, -⟩ := hu; (simp only [rel.put_lit, List.set_cons_succ, List.set_cons_zero])))
      refine rel.walk_nil ?_
      intro w9 K9 hF
      have hu : IsRw w9 (.pointer pz) (k + 1) ((nums r ++ nums s) ++ (z :: nums d)) := hF _ (List.mem_cons_self ..)
      clear hF
      simp only [List.drop_succ_cons, List.drop_zero]
      go_wp2
      go_ret
      exact ⟨⟨_, rfl, hdone.out _ _ hu⟩, K9⟩
    · have hcl := fun W (hW : Below w.heap.size w W) => ih (.cons x k b r) s _ q2 (j + 1) W (by simp only [ranks, List.length_cons]; omega) (hr0.grow hW hW.size) (hn'.grow hW hW.size) ⟨by omega, i2, i3⟩ j3 (by rw [nx]; simp only [List.length_append, List.length_cons]; omega)
      have hdone : Hid (∀ (W : World) (G : Nat) (pu : Option Addr), Below w.heap.size w W → hp.Blk W G tyR [.pointer (some ⟨h', 0, none⟩), .pointer pu] → IsRw W (.pointer pu) (j + 1) (nums (.cons x k b r) ++ nums s) → IsRw W (.pointer (some ⟨G, 0, none⟩)) m (((x :: nums b) ++ nums r) ++ ((y :: nums c) ++ nums s))) := by
        intro W G pu hW hG hu
        refine (IsRw.cons hG (hty.on hW) hu (by omega) j2).perm ?_
        rw [nx]
        generalize (x :: nums b) = X
        generalize (y :: nums c) = Y
        simp only [List.append_assoc]
        exact (List.perm_append_comm_assoc _ _ _).trans (List.Perm.append_left X (List.perm_append_comm_assoc _ _ _))
      have hKJ : (j : Int) < (k : Int) := by omega
      have hKJ2 : ¬ ((k : Int) < (j : Int)) := by omega
      generalize (k : Int) = K at *
      generalize (j : Int) = J at *
      clear ih i1 i2 i3 j1 j2 j3 hr0 hs0 hN hsz nx ny
      go_enter Try.func20, Try.ntmps20
      go_wp2_with fail
      have hKJ3 : decide (K < J) = false := by simpa using hKJ2
      go_big_region
      go_wp2_with fail
      go_big_region
      go_wp2_with fail
      apply rel.region_tail (C := fun w' => Below w.heap.size w w') (X := fun w w' => Below w.heap.size w w') 10 (by kernel_rfl) (by kernel_rfl) (by kernel_rfl) (by kernel_rfl) ((Below.refl _ _).drew.drew.drew)
      (apply rel.walk_val; (focus (intro wq hq hf; go_wp2; refine ⟨hq, Below.refl _ _, ?_, rfl⟩; (show rel.slot _ _ = _; simp only [rel.slot_lit, List.getD_cons_succ, List.getD_cons_zero]; (first | done | exact rfl)))); (simp only [rel.put_lit, List.set_cons_succ, List.set_cons_zero]))
      (apply rel.walk_val; (focus (intro wq hq hf; go_wp2; refine ⟨hq, Below.refl _ _, ?_, rfl⟩; (show rel.slot _ _ = _; simp only [rel.slot_lit, List.getD_cons_succ, List.getD_cons_zero]; (first | done | exact rfl)))); (simp only [rel.put_lit, List.set_cons_succ, List.set_cons_zero]))
      (apply rel.walk_val; (focus (intro wq hq hf; go_wp2; refine ⟨hq, Below.refl _ _, ?_, rfl⟩; (show rel.slot _ _ = _; simp only [rel.slot_lit, List.getD_cons_succ, List.getD_cons_zero]; (first | done | exact rfl)))); (simp only [rel.put_lit, List.set_cons_succ, List.set_cons_zero]))
      ((apply rel.walk_val; (focus (intro wq hq hf; (have d0 := (hq.cell (p := ⟨g', 0, none⟩) hg').trans d0); go_wp2; refine ⟨hq, Below.refl _ _, ?_, rfl⟩; (show rel.slot _ _ = _; simp only [rel.slot_lit, List.getD_cons_succ, List.getD_cons_zero]; (first | done | exact rfl)))); (simp only [rel.put_lit, List.set_cons_succ, List.set_cons_zero])))
      (apply rel.walk_val; (focus (intro wq hq hf; go_wp2; refine ⟨hq, Below.refl _ _, ?_, rfl⟩; (show rel.slot _ _ = _; simp only [rel.slot_lit, List.getD_cons_succ, List.getD_cons_zero]; (first | done | exact rfl)))); (simp only [rel.put_lit, List.set_cons_succ, List.set_cons_zero]))
      (apply rel.walk_val; (focus (intro wq hq hf; go_wp2; refine ⟨hq, Below.refl _ _, ?_, rfl⟩; (show rel.slot _ _ = _; simp only [rel.slot_lit, List.getD_cons_succ, List.getD_cons_zero]; (first | done | exact rfl)))); (simp only [rel.put_lit, List.set_cons_succ, List.set_cons_zero]))
      (apply rel.walk_val; (focus (intro wq hq hf; go_wp2; refine ⟨hq, Below.refl _ _, ?_, rfl⟩; (show rel.slot _ _ = _; simp only [rel.slot_lit, List.getD_cons_succ, List.getD_cons_zero]; (first | done | exact rfl)))); (simp only [rel.put_lit, List.set_cons_succ, List.set_cons_zero]))
      (apply rel.walk_val; (focus (intro wq hq hf; go_wp2; refine ⟨hq, Below.refl _ _, ?_, rfl⟩; (show rel.slot _ _ = _; simp only [rel.slot_lit, List.getD_cons_succ, List.getD_cons_zero]; (first | done | exact rfl)))); (simp only [rel.put_lit, List.set_cons_succ, List.set_cons_zero]))
      ((apply rel.walk_val; (focus (intro wq hq hf; (have d0 := (hq.cell (p := ⟨g', 1, none⟩) hg').trans d1); go_wp2; refine ⟨hq, Below.refl _ _, ?_, rfl⟩; (show rel.slot _ _ = _; simp only [rel.slot_lit, List.getD_cons_succ, List.getD_cons_zero]; (first | done | exact rfl)))); (simp only [rel.put_lit, List.set_cons_succ, List.set_cons_zero])))
      (apply rel.walk_rel (fun u w' => bin.IsRw w' u (j + 1) (nums (.cons x k b r) ++ nums s)) ⟨_, rfl⟩ (fun u w1 w2 h1 h2 => h2.on h1); (focus (intro wq hq hf; go_wp2_with (go_at_call 20; with_reducible refine (hcl _ hq).mono ?_; rintro e w'' ⟨⟨u, rfl, hu⟩, hb⟩); refine ⟨hq.trans (hb.mono hq.size), hb, ?_, rfl⟩; (show bin.IsRw _ (rel.slot _ _) _ _; simp only [rel.slot_lit, List.getD_cons_succ, List.getD_cons_zero]; exact hu))); (intro u wu _ hu; obtain ⟨pu, r_pu, rfl, -⟩ := hu; (simp only [rel.put_lit, List.set_cons_succ, List.set_cons_zero])))
      refine rel.walk_nil ?_
      intro w9 K9 hF
      have hu : IsRw w9 (.pointer pu) (j + 1) (nums (.cons x k b r) ++ nums s) := hF _ (List.mem_cons_self ..)
      clear hF
      simp only [List.drop_succ_cons, List.drop_zero]
      go_wp2
      go_ret
      have hbz : Below w9.heap.size w9 (w9.alloc (.cells #[.pointer (some ⟨h', 0, none⟩), .pointer pu] tyR)) := by
        ((repeat' (first | with_reducible exact Below.refl _ _ | with_reducible apply Below.setCell | with_reducible apply below_drewN | with_reducible apply Below.drew | with_reducible apply Below.alloc | with_reducible refine Below.trans ?_ (Below.mono (by assumption) ?_))) <;> (first | (simp; done) | (simp; omega) | omega))
      have hb0 := K9.trans (hbz.mono K9.size)
      exact ⟨⟨_, rfl, hdone.out _ _ _ hb0 (hp.Blk.newAt (cs := [.pointer (some ⟨h', 0, none⟩), .pointer pu]) rfl) (hu.on hbz)⟩, hb0⟩
end Go.Proofs.Ytdbipbmdpgccnaa.bin
