/- Package bino: Push, Join, Min, Pop. -/
import Derived.Test.YtdbipbmdpgccnaaBinoLeast
namespace Go.Proofs.Ytdbipbmdpgccnaa.bin
open Go Go.RowKit

abbrev tyH : TypeId := 26

theorem IsRw.heap {w : World} {u : Value} {l l' : List Int} (h : IsRw w u 0 l) (hp : l.Perm l') (hw : ∀ x ∈ l', (Lit.int .i64 x).wf = true) : ∃ q, u = .pointer q ∧ IsHeap w w.heap.size (rv q) l' := by
  obtain ⟨p, r, hu, hn, hi, hl⟩ := h
  exact ⟨p, hu, p, r, rfl, hn, hi, hl.trans hp, hw⟩

set_option maxHeartbeats 8000000 in
theorem push_any {v : Value} {l : List Int} {x : Int} {w : World} (hv : IsHeap w w.heap.size v l) (hx : (Lit.int .i64 x).wf = true) (hbd : l.length < 4611686018427387903) :
    Calls Try.prog 9 #[v, .int .i64 x] w fun e w' => (∃ q, e = .returned (rv q) ∧ IsHeap w' w'.heap.size (rv q) (x :: l)) ∧ Below w.heap.size w w' := by
  obtain ⟨p, r, rfl, hc, hi, hpm, hw⟩ := hv
  have hwf : ∀ y ∈ x :: l, (Lit.int .i64 y).wf = true := by
    intro y hy
    rcases List.mem_cons.1 hy with rfl | hy
    · exact hx
    · exact hw y hy
  have hcl : ∀ (W : World) (t : Nat), Below w.heap.size w W → hp.Blk W t tyT [.int .i64 x, .int .i64 0, .pointer none] →
      Calls Try.prog 19 #[.pointer p, .pointer (some ⟨t, 0, none⟩)] W fun e w' => (∃ q, e = .returned (.pointer q) ∧ IsHeap w' w'.heap.size (rv q) (x :: l)) ∧ Below W.heap.size W w' := fun W t hW ht =>
    (add_any (x := x) (k := 0) (b := .nil) (hc.grow hW hW.size) (Tre.mk (c := none) ht rfl) hi rfl (by have := hpm.length_eq; simp [nums]; omega)).mono fun _ _ ⟨⟨u, he, hu⟩, hb⟩ => by
      obtain ⟨q, rfl, hq⟩ := hu.heap (l' := x :: l) (by refine List.perm_append_comm.trans ?_; simp only [nums]; exact List.Perm.cons x hpm) hwf
      exact ⟨⟨q, he, hq⟩, hb⟩
  clear hc hi hpm hw hwf hx
  go_enter Try.func9, Try.ntmps9
  go_wp2_with (go_at_call 19; refine (hcl _ _ (by ((repeat' (first | with_reducible exact Below.refl _ _ | with_reducible apply Below.setCell | with_reducible apply below_drewN | with_reducible apply Below.drew | with_reducible apply Below.alloc | with_reducible refine Below.trans ?_ (Below.mono (by assumption) ?_))) <;> (first | (simp; done) | (simp; omega) | omega))) (hp.Blk.newAt (by simp))).mono ?_; clear hcl; rintro e wa ⟨⟨q, rfl, hq⟩, hb⟩; have hR : hp.Blk wa (w.heap.size + 1) tyH [.pointer none] := (by refine hp.Blk.on ?_ hb; exact (hp.Blk.newAt (by simp)).alloc _); have hbw : Below w.heap.size w wa := (by refine Below.trans ?_ (hb.mono ?_); (focus ((repeat' (first | with_reducible exact Below.refl _ _ | with_reducible apply Below.setCell | with_reducible apply below_drewN | with_reducible apply Below.drew | with_reducible apply Below.alloc | with_reducible refine Below.trans ?_ (Below.mono (by assumption) ?_))) <;> (first | (simp; done) | (simp; omega) | omega))); (focus (simp; omega))); have hf := hR.free 0; have f0 := (hR.set 0 (.pointer q)).cell 0; (have c0 := (hR).cell 0; simp only [List.getElem?_cons_zero] at c0); simp only [List.set_cons_zero, List.getElem?_cons_zero] at f0; clear hb)
  refine bodyPost_ret (v := rv q) (by simp [results, Try.results9, go_sem, f0]) rfl ⟨⟨_, rfl, ?_⟩, ?_⟩
  · exact (hq.keep (Keep.of_set hR (by decide) (by decide) _)).mono (by simp)
  · exact hbw.setCell (by simp) _

set_option maxHeartbeats 8000000 in
theorem heap_join {v u : Value} {l m : List Int} {w : World} (hv : IsHeap w w.heap.size v l) (hu : IsHeap w w.heap.size u m) (hbd : l.length + m.length < 4611686018427387904) :
    Calls Try.prog 10 #[v, u] w fun e w' => (∃ q, e = .returned (rv q) ∧ IsHeap w' w'.heap.size (rv q) (l ++ m)) ∧ Below w.heap.size w w' := by
  obtain ⟨p, r, rfl, hc, hi, hpm, hw⟩ := hv
  obtain ⟨p2, r2, rfl, hc2, hi2, hpm2, hw2⟩ := hu
  have hwf : ∀ y ∈ l ++ m, (Lit.int .i64 y).wf = true := by
    intro y hy
    rcases List.mem_append.1 hy with hy | hy
    · exact hw y hy
    · exact hw2 y hy
  have hcl : ∀ (W : World), Below w.heap.size w W → Calls Try.prog 20 #[.pointer p, .pointer p2] W fun e w' => (∃ q, e = .returned (.pointer q) ∧ IsHeap w' w'.heap.size (rv q) (l ++ m)) ∧ Below W.heap.size W w' := fun W hW =>
    (join_any _ r r2 p p2 0 W (Nat.le_refl _) (hc.grow hW hW.size) (hc2.grow hW hW.size) hi hi2 (by rw [hpm.length_eq, hpm2.length_eq]; exact hbd)).mono fun _ _ ⟨⟨u, he, hu⟩, hb⟩ => by
      obtain ⟨q, rfl, hq⟩ := hu.heap (hpm.append hpm2) hwf
      exact ⟨⟨q, he, hq⟩, hb⟩
  clear hc hi hpm hw hwf hc2 hi2 hpm2 hw2 hbd
  go_enter Try.func10, Try.ntmps10
  go_wp2_with (go_at_call 20; refine (hcl _ (by ((repeat' (first | with_reducible exact Below.refl _ _ | with_reducible apply Below.setCell | with_reducible apply below_drewN | with_reducible apply Below.drew | with_reducible apply Below.alloc | with_reducible refine Below.trans ?_ (Below.mono (by assumption) ?_))) <;> (first | (simp; done) | (simp; omega) | omega)))).mono ?_; clear hcl; rintro e wa ⟨⟨q, rfl, hq⟩, hb⟩; have hR : hp.Blk wa (w.heap.size + 1 + 1) tyH [.pointer none] := (by refine hp.Blk.on ?_ hb; exact hp.Blk.newAt (by simp)); have hbw : Below w.heap.size w wa := (by refine Below.trans ?_ (hb.mono ?_); (focus ((repeat' (first | with_reducible exact Below.refl _ _ | with_reducible apply Below.setCell | with_reducible apply below_drewN | with_reducible apply Below.drew | with_reducible apply Below.alloc | with_reducible refine Below.trans ?_ (Below.mono (by assumption) ?_))) <;> (first | (simp; done) | (simp; omega) | omega))); (focus (simp; omega))); have hf := hR.free 0; have f0 := (hR.set 0 (.pointer q)).cell 0; (have c0 := (hR).cell 0; simp only [List.getElem?_cons_zero] at c0); simp only [List.set_cons_zero, List.getElem?_cons_zero] at f0; clear hb)
  refine bodyPost_ret (v := rv q) (by simp [results, Try.results10, go_sem, f0]) rfl ⟨⟨_, rfl, ?_⟩, ?_⟩
  · exact (hq.keep (Keep.of_set hR (by decide) (by decide) _)).mono (by simp)
  · exact hbw.setCell (by simp; omega) _

theorem Has.mem {x : Int} {k : Nat} {b : Rw} : ∀ {r : Rw}, Has x k b r → x ∈ nums r
  | .nil, h => h.elim
  | .cons y j c n, h => by
    rcases h with ⟨rfl, rfl, rfl⟩ | h
    · simp [nums]
    · have := h.mem; simp [nums, this]
theorem Has.rank_mem {x : Int} {k : Nat} {b : Rw} : ∀ {r : Rw}, Has x k b r → k ∈ ranks r
  | .nil, h => h.elim
  | .cons y j c n, h => by
    rcases h with ⟨rfl, rfl, rfl⟩ | h
    · simp [ranks]
    · have := h.rank_mem; simp [ranks, this]
/-- the least one is the first one of the list, rising -/
theorem least_first {x z : Int} {l n tl : List Int} (hs : srt l = z :: tl) (hp : n.Perm l) (hx : x ∈ n) (hl : ∀ y ∈ n, x ≤ y) : x = z := by
  have h1 := srt_rises l
  rw [hs] at h1
  have hz : z ∈ l := (srt_perm l).mem_iff.1 (by rw [hs]; simp)
  have h2 := hl z (hp.mem_iff.2 hz)
  have h3 : x ∈ z :: tl := by
    rw [← hs]
    exact (srt_perm l).mem_iff.2 (hp.mem_iff.1 hx)
  rcases List.mem_cons.1 h3 with h | h
  · exact h
  · have := (List.pairwise_cons.1 h1).1 x h
    omega
theorem ne_nil_of {l tl : List Int} {z : Int} {r : Rw} (hs : srt l = z :: tl) (hp : (nums r).Perm l) : r ≠ .nil := by
  rintro rfl
  have h1 := hp.length_eq
  have h2 := srt_len l
  rw [hs] at h2
  simp [nums] at h1 h2
  omega

set_option maxHeartbeats 4000000 in
theorem min_nil {v : Value} {w : World} (hv : IsHeap w w.heap.size v []) :
    Calls Try.prog 16 #[v] w fun e w' => e = .returned (.tuple #[.int .i64 0, .bool false]) ∧ Below w.heap.size w w' := by
  obtain ⟨p, r, rfl, hc, hi, hpm, hw⟩ := hv
  have hr : r = .nil := by
    cases r with
    | nil => rfl
    | cons x k b n => have := hpm.length_eq; simp [nums] at this
  subst hr
  obtain rfl : p = none := hc
  clear hpm hw hi
  go_enter Try.func16, Try.ntmps16
  go_wp2_with fail
  go_ret2
  refine ⟨rfl, ?_⟩
  ((repeat' (first | with_reducible exact Below.refl _ _ | with_reducible apply Below.setCell | with_reducible apply below_drewN | with_reducible apply Below.drew | with_reducible apply Below.alloc | with_reducible refine Below.trans ?_ (Below.mono (by assumption) ?_))) <;> (first | (simp; done) | (simp; omega) | omega))

set_option maxHeartbeats 4000000 in
theorem min_cons {v : Value} {l tl : List Int} {z : Int} {w : World} (hv : IsHeap w w.heap.size v l) (hs : srt l = z :: tl) :
    Calls Try.prog 16 #[v] w fun e w' => e = .returned (.tuple #[.int .i64 z, .bool true]) ∧ Below w.heap.size w w' := by
  obtain ⟨p, r, rfl, hc, hi, hpm, hw⟩ := hv
  have hne := ne_nil_of hs hpm
  obtain ⟨g, hp0⟩ : ∃ g, p = some ⟨g, 0, none⟩ := by
    cases r with
    | nil => exact absurd rfl hne
    | cons x k b n => obtain ⟨g, _, _, _, he, _⟩ := hc; exact ⟨g, he⟩
  subst hp0
  have hcl : ∀ (W : World), Below w.heap.size w W → Calls Try.prog 26 #[.pointer (some ⟨g, 0, none⟩)] W fun e w' => (∃ h, ∃ k : Nat, ∃ c, e = .returned (.pointer (some ⟨h, 0, none⟩)) ∧ hp.Blk w' h tyT [.int .i64 z, .int .i64 k, .pointer c]) ∧ Below W.heap.size W w' := fun W hW =>
    (least_any (hc.grow hW hW.size) hi hne).mono fun _ w' ⟨⟨t, x, k, b, he, ht, hh, hl⟩, hb⟩ => by
      obtain ⟨h, c, rfl, hlt, hk, -⟩ := ht
      obtain rfl := least_first hs hpm hh.mem hl
      exact ⟨⟨h, k, c, he, hk.on hb⟩, hb⟩
  clear hc hi hpm hw hne hs
  go_enter Try.func16, Try.ntmps16
  go_wp2_with (go_at_call 26; refine (hcl _ (by ((repeat' (first | with_reducible exact Below.refl _ _ | with_reducible apply Below.setCell | with_reducible apply below_drewN | with_reducible apply Below.drew | with_reducible apply Below.alloc | with_reducible refine Below.trans ?_ (Below.mono (by assumption) ?_))) <;> (first | (simp; done) | (simp; omega) | omega)))).mono ?_; clear hcl; rintro e wa ⟨⟨h, k, c, rfl, hk⟩, hb⟩; have hbw : Below w.heap.size w wa := (by refine Below.trans ?_ (hb.mono ?_); (focus ((repeat' (first | with_reducible exact Below.refl _ _ | with_reducible apply Below.setCell | with_reducible apply below_drewN | with_reducible apply Below.drew | with_reducible apply Below.alloc | with_reducible refine Below.trans ?_ (Below.mono (by assumption) ?_))) <;> (first | (simp; done) | (simp; omega) | omega))); (focus (simp))); (have c0 := (hk).cell 0; simp only [List.getElem?_cons_zero] at c0); clear hb)
  go_ret2
  exact ⟨rfl, hbw⟩

set_option maxHeartbeats 4000000 in
theorem pop_nil {v : Value} {w : World} (hv : IsHeap w w.heap.size v []) :
    Calls Try.prog 17 #[v] w fun e w' => e = .returned (.tuple #[.int .i64 0, rv none, .bool false]) ∧ Below w.heap.size w w' := by
  obtain ⟨p, r, rfl, hc, hi, hpm, hw⟩ := hv
  have hr : r = .nil := by
    cases r with
    | nil => rfl
    | cons x k b n => have := hpm.length_eq; simp [nums] at this
  subst hr
  obtain rfl : p = none := hc
  clear hpm hw hi
  obtain ⟨W0, hW0⟩ : ∃ W0, ((w.alloc (.cells #[.pointer none] tyH)).alloc (.cells #[.pointer none] tyH)) = W0 := ⟨_, rfl⟩
  have hR : hp.Blk W0 (w.heap.size + 1) tyH [.pointer none] := by
    rw [← hW0]
    exact hp.Blk.newAt (by simp)
  have hA : hp.Blk W0 w.heap.size tyH [.pointer none] := by
    rw [← hW0]
    exact (hp.Blk.newAt (by simp)).alloc _
  have hb0 : Below w.heap.size w W0 := by
    rw [← hW0]
    ((repeat' (first | with_reducible exact Below.refl _ _ | with_reducible apply Below.setCell | with_reducible apply below_drewN | with_reducible apply Below.drew | with_reducible apply Below.alloc | with_reducible refine Below.trans ?_ (Below.mono (by assumption) ?_))) <;> (first | (simp; done) | (simp; omega) | omega))
  have c0 := hA.cell 0
  have d0 := hR.cell 0
  have d1 := hR.free 0
  have f0 := (hR.set 0 (.pointer none)).cell 0
  simp only [List.getElem?_cons_zero, List.set_cons_zero] at c0 d0 f0
  go_enter Try.func17, Try.ntmps17
  go_wp2_with fail
  refine bodyPost_ret (v := .tuple #[.int .i64 0, rv none, .bool false]) (by simp [results, Try.results17, go_sem, f0]) rfl ⟨rfl, ?_⟩
  exact hb0.setCell (by simp) _

theorem pop_perm {z : Int} {l tl : List Int} {r b : Rw} {k m : Nat} (hs : srt l = z :: tl) (hp : (nums r).Perm l) (hi : Inc m r) (hh : Has z k b r) : (nums (cut k r) ++ nums (rev .nil b)).Perm tl := by
  refine List.Perm.cons_inv (a := z) ?_
  rw [← hs]
  refine List.Perm.trans ?_ (srt_perm l).symm
  refine List.Perm.trans ?_ hp
  refine List.Perm.trans ?_ (hh.cut hi).symm
  refine List.Perm.trans ?_ List.perm_middle.symm
  refine List.Perm.cons z ?_
  refine List.Perm.append_left _ ?_
  have := rev_nums (r := b) (t := .nil)
  simpa [nums] using this

theorem IsR.join {w : World} {p q : Option Addr} {r s : Rw} {l : List Int} (h1 : IsR w (.pointer p) r) (h2 : IsR w (.pointer q) s) (ir : Inc 0 r) (is : Inc 0 s) (hp : (nums r ++ nums s).Perm l) (hs : l.length < 4611686018427387904) :
    Calls Try.prog 20 #[.pointer p, .pointer q] w fun e w' => (∃ u, e = .returned u ∧ IsRw w' u 0 l) ∧ Below w.heap.size w w' := by
  obtain ⟨_, he, h1⟩ := h1
  obtain ⟨_, he2, h2⟩ := h2
  cases he
  cases he2
  exact (join_any _ r s p q 0 w (Nat.le_refl _) h1 h2 ir is (by have := hp.length_eq; rw [List.length_append] at this; omega)).mono fun _ _ ⟨⟨u, he, hu⟩, hb⟩ => ⟨⟨u, he, hu.perm hp⟩, hb⟩

set_option maxHeartbeats 8000000 in
theorem pop_cons {v : Value} {l tl : List Int} {z : Int} {w : World} (hv : IsHeap w w.heap.size v l) (hs : srt l = z :: tl) (hbd : l.length < 4611686018427387904) :
    Calls Try.prog 17 #[v] w fun e w' => (∃ q, e = .returned (.tuple #[.int .i64 z, rv q, .bool true]) ∧ IsHeap w' w'.heap.size (rv q) tl) ∧ Below w.heap.size w w' := by
  obtain ⟨p, r, rfl, hc, hi, hpm, hw⟩ := hv
  have hne := ne_nil_of hs hpm
  obtain ⟨g, hp0⟩ : ∃ g, p = some ⟨g, 0, none⟩ := by
    cases r with
    | nil => exact absurd rfl hne
    | cons x k b n => obtain ⟨g, _, _, _, he, _⟩ := hc; exact ⟨g, he⟩
  subst hp0
  have htl : tl.length < 4611686018427387904 := by
    have := srt_len l
    rw [hs] at this
    simp at this
    omega
  have hwt : ∀ x ∈ tl, (Lit.int .i64 x).wf = true := fun x hx => hw x ((srt_perm l).mem_iff.1 (by rw [hs]; simp [hx]))
  have hcl : ∀ (W : World), Below w.heap.size w W → Calls Try.prog 26 #[.pointer (some ⟨g, 0, none⟩)] W fun e w' => (∃ h, ∃ k : Nat, ∃ b c, e = .returned (.pointer (some ⟨h, 0, none⟩)) ∧ hp.Blk w' h tyT [.int .i64 z, .int .i64 k, .pointer c] ∧ Row W.heap.size W b c ∧ Has z k b r ∧ Ok k z b) ∧ Below W.heap.size W w' := fun W hW =>
    (least_any (hc.grow hW hW.size) hi hne).mono fun _ w' ⟨⟨t, x, k, b, he, ht, hh, hl⟩, hb⟩ => by
      obtain ⟨h, c, rfl, hlt, hk, hr⟩ := ht
      obtain rfl := least_first hs hpm hh.mem hl
      exact ⟨⟨h, k, b, c, he, hk.on hb, hr, hh, (hh.rank hi).2⟩, hb⟩
  obtain ⟨W0, hW0⟩ : ∃ W0, ((w.alloc (.cells #[.pointer (some ⟨g, 0, none⟩)] tyH)).alloc (.cells #[.pointer none] tyH)) = W0 := ⟨_, rfl⟩
  have hR : hp.Blk W0 (w.heap.size + 1) tyH [.pointer none] := by
    rw [← hW0]
    exact hp.Blk.newAt (by simp)
  have hA : hp.Blk W0 w.heap.size tyH [.pointer (some ⟨g, 0, none⟩)] := by
    rw [← hW0]
    exact (hp.Blk.newAt (by simp)).alloc _
  have hb0 : Below w.heap.size w W0 := by
    rw [← hW0]
    ((repeat' (first | with_reducible exact Below.refl _ _ | with_reducible apply Below.setCell | with_reducible apply below_drewN | with_reducible apply Below.drew | with_reducible apply Below.alloc | with_reducible refine Below.trans ?_ (Below.mono (by assumption) ?_))) <;> (first | (simp; done) | (simp; omega) | omega))
  have c0 := hA.cell 0
  simp only [List.getElem?_cons_zero] at c0
  go_enter Try.func17, Try.ntmps17
  go_wp2_with (go_at_call 26; refine (hcl _ hb0).mono ?_; clear hcl; rintro e wa ⟨⟨h, k, b, c, rfl, hk, hrb, hh, hok⟩, hb⟩; clear c0)
  have hbw : Below w.heap.size w wa := hb0.trans (hb.mono hb0.size)
  replace hR := hR.on hb
  replace hA := hA.on hb
  replace hrb := hrb.on hb
  have hperm := pop_perm hs hpm hi hh
  have hw1 := fun W (hW : Below wa.heap.size wa W) => without_any r (some ⟨g, 0, none⟩) W (hc.grow (hbw.trans (hW.mono hbw.size)) (hbw.trans (hW.mono hbw.size)).size) hh.rank_mem
  have hw2 := fun W (hW : Below wa.heap.size wa W) => reversed_any (hrb.on hW)
  have hw3 := fun W P Q (hP : IsR W (.pointer P) (cut k r)) (hQ : IsR W (.pointer Q) (rev .nil b)) => hP.join hQ hi.cut (hok.rev trivial) hperm htl
  have hw4 : ∀ W (P : Option Addr), IsRw W (.pointer P) 0 tl → IsHeap W W.heap.size (rv P) tl := fun W P hP => by
    obtain ⟨q, he, hq⟩ := hP.heap (List.Perm.refl tl) hwt
    cases he
    exact hq
  have k0 := hk.cell 0
  have k1 := hk.cell 1
  have k2 := hk.cell 2
  have kl := hk.lt
  have al := hA.lt
  have a0 := hA.cell 0
  simp only [List.getElem?_cons_zero, List.getElem?_cons_succ] at k0 k1 k2 a0
  generalize (k : Int) = K at *
  clear hb hc hi hpm hw hne hs hb0 hh hok hperm hwt hrb hA hk hW0
  apply rel.region_tail (C := fun w' => Below wa.heap.size wa w') (X := fun w w' => Below w.heap.size w w') 19 (by kernel_rfl) (by kernel_rfl) (by kernel_rfl) (by kernel_rfl) ((Below.refl _ _).drew)
  (apply rel.walk_val; (focus (intro wq hq hf; go_wp2; refine ⟨hq, Below.refl _ _, ?_, rfl⟩; (show rel.slot _ _ = _; simp only [rel.slot_lit, List.getD_cons_succ, List.getD_cons_zero]; (first | done | exact rfl)))); (simp only [rel.put_lit, List.set_cons_succ, List.set_cons_zero]))
  (apply rel.walk_val; (focus (intro wq hq hf; go_wp2; refine ⟨hq, Below.refl _ _, ?_, rfl⟩; (show rel.slot _ _ = _; simp only [rel.slot_lit, List.getD_cons_succ, List.getD_cons_zero]; (first | done | exact rfl)))); (simp only [rel.put_lit, List.set_cons_succ, List.set_cons_zero]))
  (apply rel.walk_val; (focus (intro wq hq hf; go_wp2; refine ⟨hq, Below.refl _ _, ?_, rfl⟩; (show rel.slot _ _ = _; simp only [rel.slot_lit, List.getD_cons_succ, List.getD_cons_zero]; (first | done | exact rfl)))); (simp only [rel.put_lit, List.set_cons_succ, List.set_cons_zero]))
  ((apply rel.walk_val; (focus (intro wq hq hf; (have d0 := (hq.cell (p := ⟨h, 0, none⟩) kl).trans k0); go_wp2; refine ⟨hq, Below.refl _ _, ?_, rfl⟩; (show rel.slot _ _ = _; simp only [rel.slot_lit, List.getD_cons_succ, List.getD_cons_zero]; (first | done | exact rfl)))); (simp only [rel.put_lit, List.set_cons_succ, List.set_cons_zero])))
  (apply rel.walk_val; (focus (intro wq hq hf; go_wp2; refine ⟨hq, Below.refl _ _, ?_, rfl⟩; (show rel.slot _ _ = _; simp only [rel.slot_lit, List.getD_cons_succ, List.getD_cons_zero]; (first | done | exact rfl)))); (simp only [rel.put_lit, List.set_cons_succ, List.set_cons_zero]))
  ((apply rel.walk_val; (focus (intro wq hq hf; (have d0 := (hq.cell (p := ⟨w.heap.size, 0, none⟩) al).trans a0); go_wp2; refine ⟨hq, Below.refl _ _, ?_, rfl⟩; (show rel.slot _ _ = _; simp only [rel.slot_lit, List.getD_cons_succ, List.getD_cons_zero]; (first | done | exact rfl)))); (simp only [rel.put_lit, List.set_cons_succ, List.set_cons_zero])))
  (apply rel.walk_val; (focus (intro wq hq hf; go_wp2; refine ⟨hq, Below.refl _ _, ?_, rfl⟩; (show rel.slot _ _ = _; simp only [rel.slot_lit, List.getD_cons_succ, List.getD_cons_zero]; (first | done | exact rfl)))); (simp only [rel.put_lit, List.set_cons_succ, List.set_cons_zero]))
  (apply rel.walk_val; (focus (intro wq hq hf; go_wp2; refine ⟨hq, Below.refl _ _, ?_, rfl⟩; (show rel.slot _ _ = _; simp only [rel.slot_lit, List.getD_cons_succ, List.getD_cons_zero]; (first | done | exact rfl)))); (simp only [rel.put_lit, List.set_cons_succ, List.set_cons_zero]))
  (apply rel.walk_val; (focus (intro wq hq hf; go_wp2; refine ⟨hq, Below.refl _ _, ?_, rfl⟩; (show rel.slot _ _ = _; simp only [rel.slot_lit, List.getD_cons_succ, List.getD_cons_zero]; (first | done | exact rfl)))); (simp only [rel.put_lit, List.set_cons_succ, List.set_cons_zero]))
  ((apply rel.walk_val; (focus (intro wq hq hf; (have d0 := (hq.cell (p := ⟨h, 1, none⟩) kl).trans k1); go_wp2; refine ⟨hq, Below.refl _ _, ?_, rfl⟩; (show rel.slot _ _ = _; simp only [rel.slot_lit, List.getD_cons_succ, List.getD_cons_zero]; (first | done | exact rfl)))); (simp only [rel.put_lit, List.set_cons_succ, List.set_cons_zero])))
  (apply rel.walk_rel (fun u w' => bin.IsR w' u (cut k r)) ⟨_, rfl⟩ (fun u w1 w2 h1 h2 => h2.on h1); (focus (intro wq hq hf; go_wp2_with (go_at_call 27; with_reducible refine (hw1 _ hq).mono ?_; rintro e w'' ⟨⟨u, rfl, hu⟩, hb⟩); refine ⟨hq.trans (hb.mono hq.size), hb, ?_, rfl⟩; (show bin.IsR _ (rel.slot _ _) _; simp only [rel.slot_lit, List.getD_cons_succ, List.getD_cons_zero]; exact hu))); (intro u wu _ hu; obtain ⟨pu, rfl, -⟩ := hu; (simp only [rel.put_lit, List.set_cons_succ, List.set_cons_zero])))
  (apply rel.walk_val; (focus (intro wq hq hf; go_wp2; refine ⟨hq, Below.refl _ _, ?_, rfl⟩; (show rel.slot _ _ = _; simp only [rel.slot_lit, List.getD_cons_succ, List.getD_cons_zero]; (first | done | exact rfl)))); (simp only [rel.put_lit, List.set_cons_succ, List.set_cons_zero]))
  (apply rel.walk_val; (focus (intro wq hq hf; go_wp2; refine ⟨hq, Below.refl _ _, ?_, rfl⟩; (show rel.slot _ _ = _; simp only [rel.slot_lit, List.getD_cons_succ, List.getD_cons_zero]; (first | done | exact rfl)))); (simp only [rel.put_lit, List.set_cons_succ, List.set_cons_zero]))
  (apply rel.walk_val; (focus (intro wq hq hf; go_wp2; refine ⟨hq, Below.refl _ _, ?_, rfl⟩; (show rel.slot _ _ = _; simp only [rel.slot_lit, List.getD_cons_succ, List.getD_cons_zero]; (first | done | exact rfl)))); (simp only [rel.put_lit, List.set_cons_succ, List.set_cons_zero]))
  ((apply rel.walk_val; (focus (intro wq hq hf; (have d0 := (hq.cell (p := ⟨h, 2, none⟩) kl).trans k2); go_wp2; refine ⟨hq, Below.refl _ _, ?_, rfl⟩; (show rel.slot _ _ = _; simp only [rel.slot_lit, List.getD_cons_succ, List.getD_cons_zero]; (first | done | exact rfl)))); (simp only [rel.put_lit, List.set_cons_succ, List.set_cons_zero])))
  (apply rel.walk_rel (fun u w' => bin.IsR w' u (rev .nil b)) ⟨_, rfl⟩ (fun u w1 w2 h1 h2 => h2.on h1); (focus (intro wq hq hf; go_wp2_with (go_at_call 28; with_reducible refine (hw2 _ hq).mono ?_; rintro e w'' ⟨⟨u, rfl, hu⟩, hb⟩); refine ⟨hq.trans (hb.mono hq.size), hb, ?_, rfl⟩; (show bin.IsR _ (rel.slot _ _) _; simp only [rel.slot_lit, List.getD_cons_succ, List.getD_cons_zero]; exact hu))); (intro u wu _ hu; obtain ⟨pt, rfl, -⟩ := hu; (simp only [rel.put_lit, List.set_cons_succ, List.set_cons_zero])))
  (apply rel.walk_rel (fun u w' => bin.IsRw w' u (0) (tl)) ⟨_, rfl⟩ (fun u w1 w2 h1 h2 => h2.on h1); (focus (intro wq hq hf; go_wp2_with (go_at_call 20; with_reducible refine (hw3 _ _ _ (hf.get 1 rfl rfl) (hf.get 0 rfl rfl)).mono ?_; rintro e w'' ⟨⟨u, rfl, hu⟩, hb⟩); refine ⟨hq.trans (hb.mono hq.size), hb, ?_, rfl⟩; (show bin.IsRw _ (rel.slot _ _) _ _; simp only [rel.slot_lit, List.getD_cons_succ, List.getD_cons_zero]; exact hu))); (intro u wu _ hu; obtain ⟨pz, r_pz, rfl, -⟩ := hu; (simp only [rel.put_lit, List.set_cons_succ, List.set_cons_zero])))
  (apply rel.walk_rel (fun u w' => bin.IsHeap w' w'.heap.size u (tl)) ⟨_, rfl⟩ (fun u w1 w2 h1 h2 => h2.on h1); (focus (intro wq hq hf; have hh0 := hw4 _ _ (hf.get 0 rfl rfl); go_wp2; refine ⟨hq, Below.refl _ _, ?_, rfl⟩; (show bin.IsHeap _ _ (rel.slot _ _) _; simp only [rel.slot_lit, List.getD_cons_succ, List.getD_cons_zero]; exact hh0))); (intro u wu _ hu; obtain ⟨py, r_py, rfl, -⟩ := hu; (simp only [rel.put_lit, List.set_cons_succ, List.set_cons_zero])))
  (apply rel.walk_val; (focus (intro wq hq hf; go_wp2; refine ⟨hq, Below.refl _ _, ?_, rfl⟩; (show rel.slot _ _ = _; simp only [rel.slot_lit, List.getD_cons_succ, List.getD_cons_zero]; (first | done | exact rfl)))); (simp only [rel.put_lit, List.set_cons_succ, List.set_cons_zero]))
  refine rel.walk_nil ?_
  intro w9 K9 hF
  have hu : IsHeap w9 w9.heap.size (rv py) tl := hF _ (List.mem_cons_self ..)
  have hR9 := hR.on K9
  have d0 := hR9.cell 0
  have d1 := hR9.free 0
  have f0 := (hR9.set 0 (.pointer py)).cell 0
  simp only [List.getElem?_cons_zero, List.set_cons_zero] at d0 f0
  clear hF hw1 hw2 hw3 hw4 k0 k1 k2 a0
  simp only [List.drop_succ_cons, List.drop_zero]
  go_wp2
  refine bodyPost_ret (v := .tuple #[.int .i64 z, rv py, .bool true]) (by simp [results, Try.results17, go_sem, f0]) rfl ⟨⟨_, rfl, ?_⟩, ?_⟩
  · exact (hu.keep (Keep.of_set hR9 (by decide) (by decide) _)).mono (by simp)
  · exact (hbw.trans (K9.mono hbw.size)).setCell (by simp) _
end Go.Proofs.Ytdbipbmdpgccnaa.bin
