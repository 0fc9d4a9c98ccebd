/- The walk of ListKeeps. -/
import Derived.Test.YtkhnfkejmhhcjaaLstWalks
namespace Go.Proofs.Ytkhnfkejmhhcjaa.listKeeps
open Go Go.RowKit
set_option linter.unusedVariables false

def pA (a x : Int) : Bool := decide (x < a)
def qB (b x : Int) : Bool := decide (x.tmod 2 = 0) || decide (b < x)
def pq (a b x : Int) : Bool := pA a x && qB b x
def np (a x : Int) : Bool := !pA a x
theorem keep_len (a : Int) (l : List Int) : (l.filter (pA a)).length + (l.filter (np a)).length = l.length := by
  induction l with
  | nil => rfl
  | cons x l ih =>
    have h : np a x = !pA a x := rfl
    cases hx : pA a x <;> rw [hx] at h <;> simp [hx, h] <;> omega
theorem keep_cnt (a : Int) (l : List Int) : (l.filter (pA a)).length = same.cnt l a := by
  rw [← List.countP_eq_length_filter]
  rfl
theorem fn_p (a : Int) (g : Nat) (w : World) (h : hp.Blk w g 3 [.int .i64 a]) : lst.Fn1 w (.func (.func 28) #[] #[.pointer (some ⟨g, 0, none⟩)]) (fun x => .bool (pA a x)) := by
  refine ⟨_, _, rfl, enters_of Try.func28 (by kernel_rfl) rfl, fun x w' hb => ?_⟩
  have c0 := (h.on hb).cell 0
  simp only [List.getElem?_cons_zero] at c0
  show Calls _ _ #[.int .i64 x, .pointer (some ⟨g, 0, none⟩)] _ _
  go_enter Try.func28, Try.ntmps28
  go_wp2
  go_ret
  exact ⟨rfl, Below.refl _ _⟩
theorem fn_q (b : Int) (g : Nat) (w : World) (h : hp.Blk w g 3 [.int .i64 b]) : lst.Fn1 w (.func (.func 29) #[] #[.pointer (some ⟨g, 0, none⟩)]) (fun x => .bool (qB b x)) := by
  refine ⟨_, _, rfl, enters_of Try.func29 (by kernel_rfl) rfl, fun x w' hb => ?_⟩
  have c0 := (h.on hb).cell 0
  simp only [List.getElem?_cons_zero] at c0
  show Calls _ _ #[.int .i64 x, .pointer (some ⟨g, 0, none⟩)] _ (fun e w'' => e = .returned (.bool (qB b x)) ∧ Below w'.heap.size w' w'')
  by_cases h2 : x.tmod 2 = 0
  · have hq : qB b x = true := by simp [qB, h2]
    rw [hq]
    clear hq
    go_enter Try.func29, Try.ntmps29
    go_wp2
    go_ret
    exact ⟨rfl, Below.refl _ _⟩
  · have h2' : (x.tmod 2 == 0) = false := by simpa using h2
    by_cases h3 : b < x
    · have hq : qB b x = true := by simp [qB, h2, h3]
      rw [hq]
      clear hq
      go_enter Try.func29, Try.ntmps29
      go_wp2
      go_ret
      exact ⟨rfl, Below.refl _ _⟩
    · have hq : qB b x = false := by simp [qB, h2, h3]
      rw [hq]
      clear hq
      go_enter Try.func29, Try.ntmps29
      go_wp2
      go_ret
      exact ⟨rfl, Below.refl _ _⟩
theorem fn_pq {a b : Int} {g g' : Nat} {fv gv : Value} {w : World} (h : hp.Blk w g 45 [fv]) (h' : hp.Blk w g' 45 [gv]) (hp1 : lst.Fn1 w fv (fun x => .bool (pA a x))) (hq1 : lst.Fn1 w gv (fun x => .bool (qB b x))) :
    lst.Fn1 w (.func (.func 31) #[] #[.pointer (some ⟨g, 0, none⟩), .pointer (some ⟨g', 0, none⟩)]) (fun x => .bool (pq a b x)) := by
  obtain ⟨k1, cap1, rfl, eg1, hc1⟩ := hp1
  obtain ⟨k2, cap2, rfl, eg2, hc2⟩ := hq1
  refine ⟨_, _, rfl, enters_of Try.func31 (by kernel_rfl) rfl, fun x w' hb => ?_⟩
  have c0 := (h.on hb).cell 0
  have h2 := h'.on hb
  simp only [List.getElem?_cons_zero] at c0
  have hx1 := hc1 x w' hb
  dsimp only at hx1
  show Calls _ _ #[.int .i64 x, .pointer (some ⟨g, 0, none⟩), .pointer (some ⟨g', 0, none⟩)] _ (fun e w'' => e = .returned (.bool (pq a b x)) ∧ Below w'.heap.size w' w'')
  cases hpx : pA a x with
  | false =>
    have hq : pq a b x = false := by simp [pq, hpx]
    rw [hq]
    rw [hpx] at hx1
    clear hq hpx
    go_enter Try.func31, Try.ntmps31
    go_wp2_with (refine hx1.mono ?_; rintro e w1 ⟨rfl, hb1⟩)
    go_ret
    exact ⟨rfl, hb1⟩
  | true =>
    have hq : pq a b x = qB b x := by simp [pq, hpx]
    rw [hq]
    rw [hpx] at hx1
    clear hq hpx
    have hx2 := fun w1 (h : Below w'.heap.size w' w1) => hc2 x w1 (hb.trans (h.mono hb.size))
    dsimp only at hx2
    generalize qB b x = r at hx2 ⊢
    go_enter Try.func31, Try.ntmps31
    go_wp2_with (first | (refine hx1.mono ?_; rintro e w1 ⟨rfl, hb1⟩; have c1 := (h2.on hb1).cell 0; simp only [List.getElem?_cons_zero] at c1) | (refine (hx2 _ hb1).mono ?_; rintro e w2 ⟨rfl, hb2⟩))
    go_ret
    exact ⟨rfl, hb1.trans (hb2.mono hb1.size)⟩
theorem fn_np {a : Int} {g : Nat} {fv : Value} {w : World} (h : hp.Blk w g 45 [fv]) (hp1 : lst.Fn1 w fv (fun x => .bool (pA a x))) :
    lst.Fn1 w (.func (.func 32) #[] #[.pointer (some ⟨g, 0, none⟩)]) (fun x => .bool (np a x)) := by
  obtain ⟨k1, cap1, rfl, eg1, hc1⟩ := hp1
  refine ⟨_, _, rfl, enters_of Try.func32 (by kernel_rfl) rfl, fun x w' hb => ?_⟩
  have c0 := (h.on hb).cell 0
  simp only [List.getElem?_cons_zero] at c0
  have hx1 := hc1 x w' hb
  dsimp only at hx1
  show Calls _ _ #[.int .i64 x, .pointer (some ⟨g, 0, none⟩)] _ (fun e w'' => e = .returned (.bool (np a x)) ∧ Below w'.heap.size w' w'')
  unfold np
  generalize pA a x = r at hx1 ⊢
  go_enter Try.func32, Try.ntmps32
  go_wp2_with (refine hx1.mono ?_; rintro e w1 ⟨rfl, hb1⟩)
  go_ret
  exact ⟨rfl, hb1⟩

set_option maxHeartbeats 8000000 in
theorem walk (v0 : Value) (l0 : List Int) (x1 : Int) (x2 : Int) (w : World) (i0 : hp.IsInts w w.heap.size v0 l0) (w1 : (Lit.int .i64 x1).wf = true) (w2 : (Lit.int .i64 x2).wf = true) (bd0 : l0.length ≤ 17592186043904)  :
    Calls Try.prog 7 #[v0, .int .i64 x1, .int .i64 x2] w fun e w' => e = .returned (.bool true) ∧ Below w.heap.size w w' := by
  have hb : Below w.heap.size w w := Below.refl _ _
  have hsf := lst.store_func
  obtain ⟨a0, c0, he0, hr0⟩ := i0
  have i0 : hp.IsInts w w.heap.size (.slice a0 l0.length c0) l0 := ⟨a0, c0, rfl, hr0⟩
  subst he0
  clear hr0
  go_enter Try.func7, Try.ntmps7
  refine wp_seq_k fun K1 hK1 => ?_
  replace hK1 := Lib.hid hK1
  -- region 0 (low.go:155)
  apply rel.seq_tail (hn := by decide) (C := fun w' => Below w.heap.size w w') (X := fun w w' => Below w.heap.size w w') 0 (by kernel_rfl) (by kernel_rfl) (Below.refl _ _)
  refine rel.walk_nil ?_
  intro W2 kwW2 hF
  clear hF
  replace i0 := i0.on kwW2
  replace hb := hb.trans (kwW2.mono hb.size)
  simp only [List.drop_zero]
  go_wp2
  obtain ⟨W3, hW3⟩ : ∃ x, ((W2.alloc (.cells #[.int .i64 x1] 3)).alloc (.cells #[.int .i64 x2] 3)) = x := ⟨_, rfl⟩
  have B4 : hp.Blk W3 (W2.heap.size) 3 [.int .i64 x1] := by rw [← hW3]; (first | exact hp.Blk.newAt (by simp) | exact (hp.Blk.newAt (by simp)).alloc _ | exact ((hp.Blk.newAt (by simp)).alloc _).alloc _ | exact (((hp.Blk.newAt (by simp)).alloc _).alloc _).alloc _ | exact ((((hp.Blk.newAt (by simp)).alloc _).alloc _).alloc _).alloc _ | exact (((((hp.Blk.newAt (by simp)).alloc _).alloc _).alloc _).alloc _).alloc _)
  have B5 : hp.Blk W3 (W2.heap.size + 1) 3 [.int .i64 x2] := by rw [← hW3]; (first | exact hp.Blk.newAt (by simp) | exact (hp.Blk.newAt (by simp)).alloc _ | exact ((hp.Blk.newAt (by simp)).alloc _).alloc _ | exact (((hp.Blk.newAt (by simp)).alloc _).alloc _).alloc _ | exact ((((hp.Blk.newAt (by simp)).alloc _).alloc _).alloc _).alloc _ | exact (((((hp.Blk.newAt (by simp)).alloc _).alloc _).alloc _).alloc _).alloc _)
  have kwW3 : Below W2.heap.size W2 W3 := by rw [← hW3]; ((repeat' (first | with_reducible exact Below.refl _ _ | with_reducible apply Below.setCell | with_reducible apply below_drewN | with_reducible apply Below.drew | with_reducible apply Below.alloc | with_reducible refine Below.trans ?_ (Below.mono (by assumption) ?_))) <;> (first | (simp; done) | (simp; omega) | omega))
  rw [hW3]
  clear hW3
  replace i0 := i0.on kwW3
  replace hb := hb.trans (kwW3.mono hb.size)
  refine hK1.out _ _ ?_
  refine wp_seq_k fun K6 hK6 => ?_
  replace hK6 := Lib.hid hK6
  -- region 1 (low.go:156)
  apply rel.seq (C := fun w' => Below W3.heap.size W3 w') (X := fun w w' => Below w.heap.size w w') (by kernel_rfl) (by kernel_rfl) (Below.refl _ _)
  (apply rel.walk_val; (focus (intro wq hq hf; go_wp2_with (go_at_call 12; refine (lst.listed_any _).mono ?_; rintro e w'' ⟨rfl, hbb⟩); refine ⟨hq.trans (hbb.mono hq.size), hbb, ?_, rfl⟩; (show rel.slot _ _ = _; simp only [rel.slot_lit, List.getD_cons_succ, List.getD_cons_zero]; (first | done | exact rfl)))); (simp only [rel.put_lit, List.set_cons_succ, List.set_cons_zero]))
  (apply rel.walk_val; (focus (intro wq hq hf; go_wp2; refine ⟨hq, Below.refl _ _, ?_, rfl⟩; (show rel.slot _ _ = _; simp only [rel.slot_lit, List.getD_cons_succ, List.getD_cons_zero]; (first | done | exact rfl)))); (simp only [rel.put_lit, List.set_cons_succ, List.set_cons_zero]))
  refine rel.walk_nil ?_
  intro W7 kwW7 hF
  clear hF
  replace i0 := i0.on kwW7
  replace B4 := B4.on kwW7
  replace B5 := B5.on kwW7
  replace hb := hb.trans (kwW7.mono hb.size)
  refine hK6.out _ _ ?_
  refine wp_seq_k fun K8 hK8 => ?_
  replace hK8 := Lib.hid hK8
  refine wp_seq_k fun K9 hK9 => ?_
  replace hK9 := Lib.hid hK9
  -- region 2 (low.go:157)
  apply rel.seq (C := fun w' => Below W7.heap.size W7 w') (X := fun w w' => Below w.heap.size w w') (by kernel_rfl) (by kernel_rfl) (Below.refl _ _)
  (apply rel.walk_val; (focus (intro wq hq hf; go_wp2; refine ⟨hq, Below.refl _ _, ?_, rfl⟩; (show rel.slot _ _ = _; simp only [rel.slot_lit, List.getD_cons_succ, List.getD_cons_zero]; (first | done | exact rfl)))); (simp only [rel.put_lit, List.set_cons_succ, List.set_cons_zero]))
  (apply rel.walk_val; (focus (intro wq hq hf; go_wp2; refine ⟨hq, Below.refl _ _, ?_, rfl⟩; (show rel.slot _ _ = _; simp only [rel.slot_lit, List.getD_cons_succ, List.getD_cons_zero]; (first | done | exact rfl)))); (simp only [rel.put_lit, List.set_cons_succ, List.set_cons_zero]))
  refine rel.walk_nil ?_
  intro W10 kwW10 hF
  clear hF
  replace i0 := i0.on kwW10
  replace B4 := B4.on kwW10
  replace B5 := B5.on kwW10
  replace hb := hb.trans (kwW10.mono hb.size)
  refine hK9.out _ _ ?_
  refine wp_cond_false rfl ?_
  refine wp_skip ?_
  refine hK8.out _ _ ?_
  refine wp_seq_k fun K11 hK11 => ?_
  replace hK11 := Lib.hid hK11
  -- region 4 (low.go:160)
  apply rel.seq_tail (hn := by decide) (C := fun w' => Below W10.heap.size W10 w') (X := fun w w' => Below w.heap.size w w') 1 (by kernel_rfl) (by kernel_rfl) (Below.refl _ _)
  (apply rel.walk_val; (focus (intro wq hq hf; go_wp2; refine ⟨hq, Below.refl _ _, ?_, rfl⟩; (show rel.slot _ _ = _; simp only [rel.slot_lit, List.getD_cons_succ, List.getD_cons_zero]; (first | done | exact rfl)))); (simp only [rel.put_lit, List.set_cons_succ, List.set_cons_zero]))
  refine rel.walk_nil ?_
  intro W12 kwW12 hF
  clear hF
  replace i0 := i0.on kwW12
  replace B4 := B4.on kwW12
  replace B5 := B5.on kwW12
  replace hb := hb.trans (kwW12.mono hb.size)
  simp only [List.drop_succ_cons, List.drop_zero]
  go_wp2
  obtain ⟨W13, hW13⟩ : ∃ x, (W12.alloc (.cells #[.func (.func 28) #[] #[.pointer (some ⟨W2.heap.size, 0, none⟩)]] 45)) = x := ⟨_, rfl⟩
  have B14 : hp.Blk W13 (W12.heap.size) 45 [.func (.func 28) #[] #[.pointer (some ⟨W2.heap.size, 0, none⟩)]] := by rw [← hW13]; (first | exact hp.Blk.newAt (by simp) | exact (hp.Blk.newAt (by simp)).alloc _ | exact ((hp.Blk.newAt (by simp)).alloc _).alloc _ | exact (((hp.Blk.newAt (by simp)).alloc _).alloc _).alloc _ | exact ((((hp.Blk.newAt (by simp)).alloc _).alloc _).alloc _).alloc _ | exact (((((hp.Blk.newAt (by simp)).alloc _).alloc _).alloc _).alloc _).alloc _)
  have kwW13 : Below W12.heap.size W12 W13 := by rw [← hW13]; ((repeat' (first | with_reducible exact Below.refl _ _ | with_reducible apply Below.setCell | with_reducible apply below_drewN | with_reducible apply Below.drew | with_reducible apply Below.alloc | with_reducible refine Below.trans ?_ (Below.mono (by assumption) ?_))) <;> (first | (simp; done) | (simp; omega) | omega))
  rw [hW13]
  clear hW13
  replace i0 := i0.on kwW13
  replace B4 := B4.on kwW13
  replace B5 := B5.on kwW13
  replace hb := hb.trans (kwW13.mono hb.size)
  have F15 := fn_p x1 _ W13 B4
  refine hK11.out _ _ ?_
  refine wp_seq_k fun K16 hK16 => ?_
  replace hK16 := Lib.hid hK16
  -- region 5 (low.go:161)
  apply rel.seq_tail (hn := by decide) (C := fun w' => Below W13.heap.size W13 w') (X := fun w w' => Below w.heap.size w w') 1 (by kernel_rfl) (by kernel_rfl) (Below.refl _ _)
  (apply rel.walk_val; (focus (intro wq hq hf; go_wp2; refine ⟨hq, Below.refl _ _, ?_, rfl⟩; (show rel.slot _ _ = _; simp only [rel.slot_lit, List.getD_cons_succ, List.getD_cons_zero]; (first | done | exact rfl)))); (simp only [rel.put_lit, List.set_cons_succ, List.set_cons_zero]))
  refine rel.walk_nil ?_
  intro W17 kwW17 hF
  clear hF
  replace i0 := i0.on kwW17
  replace B4 := B4.on kwW17
  replace B5 := B5.on kwW17
  replace B14 := B14.on kwW17
  replace F15 := F15.on kwW17
  replace hb := hb.trans (kwW17.mono hb.size)
  simp only [List.drop_succ_cons, List.drop_zero]
  go_wp2
  obtain ⟨W18, hW18⟩ : ∃ x, (W17.alloc (.cells #[.func (.func 29) #[] #[.pointer (some ⟨W2.heap.size + 1, 0, none⟩)]] 45)) = x := ⟨_, rfl⟩
  have B19 : hp.Blk W18 (W17.heap.size) 45 [.func (.func 29) #[] #[.pointer (some ⟨W2.heap.size + 1, 0, none⟩)]] := by rw [← hW18]; (first | exact hp.Blk.newAt (by simp) | exact (hp.Blk.newAt (by simp)).alloc _ | exact ((hp.Blk.newAt (by simp)).alloc _).alloc _ | exact (((hp.Blk.newAt (by simp)).alloc _).alloc _).alloc _ | exact ((((hp.Blk.newAt (by simp)).alloc _).alloc _).alloc _).alloc _ | exact (((((hp.Blk.newAt (by simp)).alloc _).alloc _).alloc _).alloc _).alloc _)
  have kwW18 : Below W17.heap.size W17 W18 := by rw [← hW18]; ((repeat' (first | with_reducible exact Below.refl _ _ | with_reducible apply Below.setCell | with_reducible apply below_drewN | with_reducible apply Below.drew | with_reducible apply Below.alloc | with_reducible refine Below.trans ?_ (Below.mono (by assumption) ?_))) <;> (first | (simp; done) | (simp; omega) | omega))
  rw [hW18]
  clear hW18
  replace i0 := i0.on kwW18
  replace B4 := B4.on kwW18
  replace B5 := B5.on kwW18
  replace B14 := B14.on kwW18
  replace F15 := F15.on kwW18
  replace hb := hb.trans (kwW18.mono hb.size)
  have F20 := fn_q x2 _ W18 B5
  refine hK16.out _ _ ?_
  refine wp_seq_k fun K21 hK21 => ?_
  replace hK21 := Lib.hid hK21
  -- region 6 (low.go:162)
  apply rel.seq_tail (hn := by decide) (C := fun w' => Below W18.heap.size W18 w') (X := fun w w' => Below w.heap.size w w') 2 (by kernel_rfl) (by kernel_rfl) (Below.refl _ _)
  (apply rel.walk_val; (focus (intro wq hq hf; go_wp2; refine ⟨hq, Below.refl _ _, ?_, rfl⟩; (show rel.slot _ _ = _; simp only [rel.slot_lit, List.getD_cons_succ, List.getD_cons_zero]; (first | done | exact rfl)))); (simp only [rel.put_lit, List.set_cons_succ, List.set_cons_zero]))
  (apply rel.walk_rel (fun u w' => lst.IsList w' w'.heap.size u (l0)) ⟨_, rfl⟩ (fun u w1 w2 h1 h2 => h2.on h1); (focus (intro wq hq hf; go_wp2_with (go_at_call 13; refine (lst.of_any _ l0 _ (i0.on hq) (by first | omega | simp)).mono ?_; rintro e w'' ⟨⟨u, rfl, hu⟩, hbb⟩); refine ⟨hq.trans (hbb.mono hq.size), hbb, ?_, rfl⟩; (show lst.IsList _ _ (rel.slot _ _) _; simp only [rel.slot_lit, List.getD_cons_succ, List.getD_cons_zero]; exact hu))); (intro u wu _ hu; obtain ⟨p22, rfl, -, -⟩ := hu; (simp only [rel.put_lit, List.set_cons_succ, List.set_cons_zero])))
  refine rel.walk_nil ?_
  intro W23 kwW23 hF
  have f24 : lst.IsList W23 W23.heap.size (lst.lv p22 l0.length) l0 := rel.fact hF 0 rfl
  clear hF
  replace i0 := i0.on kwW23
  replace B4 := B4.on kwW23
  replace B5 := B5.on kwW23
  replace B14 := B14.on kwW23
  replace F15 := F15.on kwW23
  replace B19 := B19.on kwW23
  replace F20 := F20.on kwW23
  replace hb := hb.trans (kwW23.mono hb.size)
  simp only [List.drop_succ_cons, List.drop_zero]
  go_wp2
  obtain ⟨W25, hW25⟩ : ∃ x, (W23.alloc (.cells #[.pointer p22, .int .i64 l0.length] 26)) = x := ⟨_, rfl⟩
  have B26 : hp.Blk W25 (W23.heap.size) 26 [.pointer p22, .int .i64 l0.length] := by rw [← hW25]; (first | exact hp.Blk.newAt (by simp) | exact (hp.Blk.newAt (by simp)).alloc _ | exact ((hp.Blk.newAt (by simp)).alloc _).alloc _ | exact (((hp.Blk.newAt (by simp)).alloc _).alloc _).alloc _ | exact ((((hp.Blk.newAt (by simp)).alloc _).alloc _).alloc _).alloc _ | exact (((((hp.Blk.newAt (by simp)).alloc _).alloc _).alloc _).alloc _).alloc _)
  have kwW25 : Below W23.heap.size W23 W25 := by rw [← hW25]; ((repeat' (first | with_reducible exact Below.refl _ _ | with_reducible apply Below.setCell | with_reducible apply below_drewN | with_reducible apply Below.drew | with_reducible apply Below.alloc | with_reducible refine Below.trans ?_ (Below.mono (by assumption) ?_))) <;> (first | (simp; done) | (simp; omega) | omega))
  rw [hW25]
  clear hW25
  replace i0 := i0.on kwW25
  replace B4 := B4.on kwW25
  replace B5 := B5.on kwW25
  replace B14 := B14.on kwW25
  replace F15 := F15.on kwW25
  replace B19 := B19.on kwW25
  replace F20 := F20.on kwW25
  replace f24 := f24.on kwW25
  replace hb := hb.trans (kwW25.mono hb.size)
  refine hK21.out _ _ ?_
  refine wp_seq_k fun K27 hK27 => ?_
  replace hK27 := Lib.hid hK27
  obtain ⟨t29, ht29, bt29⟩ := rel.name_list (l0.filter (pA x1)) 17592186043904 (by have := List.length_filter_le (pA x1) l0; omega)
  obtain ⟨t31, ht31, bt31⟩ := rel.name_list (t29.filter (qB x2)) 17592186043904 (by have := List.length_filter_le (qB x2) t29; omega)
  obtain ⟨t34, ht34, bt34⟩ := rel.name_list (l0.filter (qB x2)) 17592186043904 (by have := List.length_filter_le (qB x2) l0; omega)
  obtain ⟨t36, ht36, bt36⟩ := rel.name_list (t34.filter (pA x1)) 17592186043904 (by have := List.length_filter_le (pA x1) t34; omega)
  have he38 : t31 = t36 := (by (simp only [← ht36.out, ← ht34.out, ← ht31.out, ← ht29.out]); simp only [List.filter_filter]; congr 1; funext x; exact Bool.and_comm _ _)
  replace he38 := Lib.hid he38
  -- region 7 (low.go:163)
  apply rel.region (C := fun w' => Below W25.heap.size W25 w') (X := fun w w' => Below w.heap.size w w') (by kernel_rfl) (by kernel_rfl) (by kernel_rfl) ((Below.refl _ _).drew)
  ((apply rel.walk_val; (focus (intro wq hq hf; (obtain ⟨d0, d1⟩ := ((B26).below hq (B26).lt).cells2); go_wp2; refine ⟨hq, Below.refl _ _, ?_, rfl⟩; (show rel.slot _ _ = _; simp only [rel.slot_lit, List.getD_cons_succ, List.getD_cons_zero]; (first | done | exact rfl)))); (simp only [rel.put_lit, List.set_cons_succ, List.set_cons_zero])))
  (apply rel.walk_val; (focus (intro wq hq hf; (have d0 := (B14.on hq).cell 0; simp only [List.getElem?_cons_zero] at d0); go_wp2; refine ⟨hq, Below.refl _ _, ?_, rfl⟩; (show rel.slot _ _ = _; simp only [rel.slot_lit, List.getD_cons_succ, List.getD_cons_zero]; (first | done | exact rfl)))); (simp only [rel.put_lit, List.set_cons_succ, List.set_cons_zero]))
  (apply rel.walk_rel (fun u w' => lst.IsList w' w'.heap.size u (t29)) ⟨_, rfl⟩ (fun u w1 w2 h1 h2 => h2.on h1); (focus (intro wq hq hf; go_wp2_with (go_at_call 30; refine (lst.keep_to ht29.out (f24.on hq) (F15.on hq) (by first | omega | simp)).mono ?_; rintro e w'' ⟨⟨u, rfl, hu⟩, hbb⟩); refine ⟨hq.trans (hbb.mono hq.size), hbb, ?_, rfl⟩; (show lst.IsList _ _ (rel.slot _ _) _; simp only [rel.slot_lit, List.getD_cons_succ, List.getD_cons_zero]; exact hu))); (intro u wu _ hu; obtain ⟨p28, rfl, -, -⟩ := hu; (simp only [rel.put_lit, List.set_cons_succ, List.set_cons_zero])))
  (apply rel.walk_val; (focus (intro wq hq hf; (have d0 := (B19.on hq).cell 0; simp only [List.getElem?_cons_zero] at d0); go_wp2; refine ⟨hq, Below.refl _ _, ?_, rfl⟩; (show rel.slot _ _ = _; simp only [rel.slot_lit, List.getD_cons_succ, List.getD_cons_zero]; (first | done | exact rfl)))); (simp only [rel.put_lit, List.set_cons_succ, List.set_cons_zero]))
  (apply rel.walk_rel (fun u w' => lst.IsList w' w'.heap.size u (t31)) ⟨_, rfl⟩ (fun u w1 w2 h1 h2 => h2.on h1); (focus (intro wq hq hf; go_wp2_with (go_at_call 30; refine (lst.keep_to ht31.out (hf.get 0 rfl rfl) (F20.on hq) (by first | omega | simp)).mono ?_; rintro e w'' ⟨⟨u, rfl, hu⟩, hbb⟩); refine ⟨hq.trans (hbb.mono hq.size), hbb, ?_, rfl⟩; (show lst.IsList _ _ (rel.slot _ _) _; simp only [rel.slot_lit, List.getD_cons_succ, List.getD_cons_zero]; exact hu))); (intro u wu _ hu; obtain ⟨p30, rfl, -, -⟩ := hu; (simp only [rel.put_lit, List.set_cons_succ, List.set_cons_zero])))
  (apply rel.walk_rel (fun u w' => hp.IsInts w' w'.heap.size u (t31)) ⟨_, rfl⟩ (fun u w1 w2 h1 h2 => h2.on h1); (focus (intro wq hq hf; go_wp2_with (go_at_call 15; refine (lst.ints_any _ t31 _ (hf.get 0 rfl rfl) (by first | omega | simp)).mono ?_; rintro e w'' ⟨⟨u, rfl, hu⟩, hbb⟩); refine ⟨hq.trans (hbb.mono hq.size), hbb, ?_, rfl⟩; (show hp.IsInts _ _ (rel.slot _ _) _; simp only [rel.slot_lit, List.getD_cons_succ, List.getD_cons_zero]; exact hu))); (intro u wu _ hu; obtain ⟨av32, cv32, rfl, -⟩ := hu; (simp only [rel.put_lit, List.set_cons_succ, List.set_cons_zero])))
  ((apply rel.walk_val; (focus (intro wq hq hf; (obtain ⟨d0, d1⟩ := ((B26).below hq (B26).lt).cells2); go_wp2; refine ⟨hq, Below.refl _ _, ?_, rfl⟩; (show rel.slot _ _ = _; simp only [rel.slot_lit, List.getD_cons_succ, List.getD_cons_zero]; (first | done | exact rfl)))); (simp only [rel.put_lit, List.set_cons_succ, List.set_cons_zero])))
  (apply rel.walk_val; (focus (intro wq hq hf; (have d0 := (B19.on hq).cell 0; simp only [List.getElem?_cons_zero] at d0); go_wp2; refine ⟨hq, Below.refl _ _, ?_, rfl⟩; (show rel.slot _ _ = _; simp only [rel.slot_lit, List.getD_cons_succ, List.getD_cons_zero]; (first | done | exact rfl)))); (simp only [rel.put_lit, List.set_cons_succ, List.set_cons_zero]))
  (apply rel.walk_rel (fun u w' => lst.IsList w' w'.heap.size u (t34)) ⟨_, rfl⟩ (fun u w1 w2 h1 h2 => h2.on h1); (focus (intro wq hq hf; go_wp2_with (go_at_call 30; refine (lst.keep_to ht34.out (f24.on hq) (F20.on hq) (by first | omega | simp)).mono ?_; rintro e w'' ⟨⟨u, rfl, hu⟩, hbb⟩); refine ⟨hq.trans (hbb.mono hq.size), hbb, ?_, rfl⟩; (show lst.IsList _ _ (rel.slot _ _) _; simp only [rel.slot_lit, List.getD_cons_succ, List.getD_cons_zero]; exact hu))); (intro u wu _ hu; obtain ⟨p33, rfl, -, -⟩ := hu; (simp only [rel.put_lit, List.set_cons_succ, List.set_cons_zero])))
  (apply rel.walk_val; (focus (intro wq hq hf; (have d0 := (B14.on hq).cell 0; simp only [List.getElem?_cons_zero] at d0); go_wp2; refine ⟨hq, Below.refl _ _, ?_, rfl⟩; (show rel.slot _ _ = _; simp only [rel.slot_lit, List.getD_cons_succ, List.getD_cons_zero]; (first | done | exact rfl)))); (simp only [rel.put_lit, List.set_cons_succ, List.set_cons_zero]))
  (apply rel.walk_rel (fun u w' => lst.IsList w' w'.heap.size u (t36)) ⟨_, rfl⟩ (fun u w1 w2 h1 h2 => h2.on h1); (focus (intro wq hq hf; go_wp2_with (go_at_call 30; refine (lst.keep_to ht36.out (hf.get 0 rfl rfl) (F15.on hq) (by first | omega | simp)).mono ?_; rintro e w'' ⟨⟨u, rfl, hu⟩, hbb⟩); refine ⟨hq.trans (hbb.mono hq.size), hbb, ?_, rfl⟩; (show lst.IsList _ _ (rel.slot _ _) _; simp only [rel.slot_lit, List.getD_cons_succ, List.getD_cons_zero]; exact hu))); (intro u wu _ hu; obtain ⟨p35, rfl, -, -⟩ := hu; (simp only [rel.put_lit, List.set_cons_succ, List.set_cons_zero])))
  (apply rel.walk_rel (fun u w' => hp.IsInts w' w'.heap.size u (t36)) ⟨_, rfl⟩ (fun u w1 w2 h1 h2 => h2.on h1); (focus (intro wq hq hf; go_wp2_with (go_at_call 15; refine (lst.ints_any _ t36 _ (hf.get 0 rfl rfl) (by first | omega | simp)).mono ?_; rintro e w'' ⟨⟨u, rfl, hu⟩, hbb⟩); refine ⟨hq.trans (hbb.mono hq.size), hbb, ?_, rfl⟩; (show hp.IsInts _ _ (rel.slot _ _) _; simp only [rel.slot_lit, List.getD_cons_succ, List.getD_cons_zero]; exact hu))); (intro u wu _ hu; obtain ⟨av37, cv37, rfl, -⟩ := hu; (simp only [rel.put_lit, List.set_cons_succ, List.set_cons_zero])))
  (apply rel.walk_val; (focus (intro wq hq hf; go_wp2_with (go_at_call 14; refine (same.ints_eq he38.out (hf.get 3 rfl rfl) (hf.get 0 rfl rfl)).mono ?_; rintro e w'' ⟨rfl, hbb⟩); refine ⟨hq.trans (hbb.mono hq.size), hbb, ?_, rfl⟩; (show rel.slot _ _ = _; simp only [rel.slot_lit, List.getD_cons_succ, List.getD_cons_zero]; (first | done | exact rfl)))); (simp only [rel.put_lit, List.set_cons_succ, List.set_cons_zero]))
  (apply rel.walk_val; (focus (intro wq hq hf; go_wp2; refine ⟨hq, Below.refl _ _, ?_, rfl⟩; (show rel.slot _ _ = _; simp only [rel.slot_lit, List.getD_cons_succ, List.getD_cons_zero]; (first | done | exact rfl)))); (simp only [rel.put_lit, List.set_cons_succ, List.set_cons_zero]))
  refine rel.walk_nil ?_
  intro W39 kwW39 hF
  clear hF
  replace i0 := i0.on kwW39
  replace B4 := B4.on kwW39
  replace B5 := B5.on kwW39
  replace B14 := B14.on kwW39
  replace F15 := F15.on kwW39
  replace B19 := B19.on kwW39
  replace F20 := F20.on kwW39
  replace f24 := f24.on kwW39
  replace B26 := B26.on kwW39
  replace hb := hb.trans (kwW39.mono hb.size)
  refine hK27.out _ _ ?_
  refine wp_seq_k fun K40 hK40 => ?_
  replace hK40 := Lib.hid hK40
  obtain ⟨t42, ht42, bt42⟩ := rel.name_list (l0.filter (pq x1 x2)) 17592186043904 (by have := List.length_filter_le (pq x1 x2) l0; omega)
  -- region 8 (low.go:164)
  apply rel.seq_tail (hn := by decide) (C := fun w' => Below W39.heap.size W39 w') (X := fun w w' => Below w.heap.size w w') 3 (by kernel_rfl) (by kernel_rfl) (Below.refl _ _)
  ((apply rel.walk_val; (focus (intro wq hq hf; (obtain ⟨d0, d1⟩ := ((B26).below hq (B26).lt).cells2); go_wp2; refine ⟨hq, Below.refl _ _, ?_, rfl⟩; (show rel.slot _ _ = _; simp only [rel.slot_lit, List.getD_cons_succ, List.getD_cons_zero]; (first | done | exact rfl)))); (simp only [rel.put_lit, List.set_cons_succ, List.set_cons_zero])))
  (apply rel.walk_val; (focus (intro wq hq hf; go_wp2; refine ⟨hq, Below.refl _ _, ?_, rfl⟩; (show rel.slot _ _ = _; simp only [rel.slot_lit, List.getD_cons_succ, List.getD_cons_zero]; (first | done | exact rfl)))); (simp only [rel.put_lit, List.set_cons_succ, List.set_cons_zero]))
  (apply rel.walk_rel (fun u w' => lst.IsList w' w'.heap.size u (t42)) ⟨_, rfl⟩ (fun u w1 w2 h1 h2 => h2.on h1); (focus (intro wq hq hf; go_wp2_with (go_at_call 30; refine (lst.keep_to ht42.out (f24.on hq) (fn_pq (B14.on hq) (B19.on hq) (F15.on hq) (F20.on hq)) (by first | omega | simp)).mono ?_; rintro e w'' ⟨⟨u, rfl, hu⟩, hbb⟩); refine ⟨hq.trans (hbb.mono hq.size), hbb, ?_, rfl⟩; (show lst.IsList _ _ (rel.slot _ _) _; simp only [rel.slot_lit, List.getD_cons_succ, List.getD_cons_zero]; exact hu))); (intro u wu _ hu; obtain ⟨p41, rfl, -, -⟩ := hu; (simp only [rel.put_lit, List.set_cons_succ, List.set_cons_zero])))
  refine rel.walk_nil ?_
  intro W43 kwW43 hF
  have f44 : lst.IsList W43 W43.heap.size (lst.lv p41 t42.length) t42 := rel.fact hF 0 rfl
  clear hF
  replace i0 := i0.on kwW43
  replace B4 := B4.on kwW43
  replace B5 := B5.on kwW43
  replace B14 := B14.on kwW43
  replace F15 := F15.on kwW43
  replace B19 := B19.on kwW43
  replace F20 := F20.on kwW43
  replace f24 := f24.on kwW43
  replace B26 := B26.on kwW43
  replace hb := hb.trans (kwW43.mono hb.size)
  simp only [List.drop_succ_cons, List.drop_zero]
  go_wp2
  obtain ⟨W45, hW45⟩ : ∃ x, (W43.alloc (.cells #[.pointer p41, .int .i64 t42.length] 26)) = x := ⟨_, rfl⟩
  have B46 : hp.Blk W45 (W43.heap.size) 26 [.pointer p41, .int .i64 t42.length] := by rw [← hW45]; (first | exact hp.Blk.newAt (by simp) | exact (hp.Blk.newAt (by simp)).alloc _ | exact ((hp.Blk.newAt (by simp)).alloc _).alloc _ | exact (((hp.Blk.newAt (by simp)).alloc _).alloc _).alloc _ | exact ((((hp.Blk.newAt (by simp)).alloc _).alloc _).alloc _).alloc _ | exact (((((hp.Blk.newAt (by simp)).alloc _).alloc _).alloc _).alloc _).alloc _)
  have kwW45 : Below W43.heap.size W43 W45 := by rw [← hW45]; ((repeat' (first | with_reducible exact Below.refl _ _ | with_reducible apply Below.setCell | with_reducible apply below_drewN | with_reducible apply Below.drew | with_reducible apply Below.alloc | with_reducible refine Below.trans ?_ (Below.mono (by assumption) ?_))) <;> (first | (simp; done) | (simp; omega) | omega))
  rw [hW45]
  clear hW45
  replace i0 := i0.on kwW45
  replace B4 := B4.on kwW45
  replace B5 := B5.on kwW45
  replace B14 := B14.on kwW45
  replace F15 := F15.on kwW45
  replace B19 := B19.on kwW45
  replace F20 := F20.on kwW45
  replace f24 := f24.on kwW45
  replace B26 := B26.on kwW45
  replace f44 := f44.on kwW45
  replace hb := hb.trans (kwW45.mono hb.size)
  refine hK40.out _ _ ?_
  refine wp_seq_k fun K47 hK47 => ?_
  replace hK47 := Lib.hid hK47
  obtain ⟨t49, ht49, bt49⟩ := rel.name_list (l0.filter (pA x1)) 17592186043904 (by have := List.length_filter_le (pA x1) l0; omega)
  obtain ⟨t51, ht51, bt51⟩ := rel.name_list (t49.filter (qB x2)) 17592186043904 (by have := List.length_filter_le (qB x2) t49; omega)
  have he54 : t51 = t42 := (by (simp only [← ht51.out, ← ht49.out, ← ht42.out]); simp only [List.filter_filter]; congr 1; funext x; exact Bool.and_comm _ _)
  replace he54 := Lib.hid he54
  -- region 9 (low.go:165)
  apply rel.region (C := fun w' => Below W45.heap.size W45 w') (X := fun w w' => Below w.heap.size w w') (by kernel_rfl) (by kernel_rfl) (by kernel_rfl) ((Below.refl _ _).drew)
  ((apply rel.walk_val; (focus (intro wq hq hf; (obtain ⟨d0, d1⟩ := ((B26).below hq (B26).lt).cells2); go_wp2; refine ⟨hq, Below.refl _ _, ?_, rfl⟩; (show rel.slot _ _ = _; simp only [rel.slot_lit, List.getD_cons_succ, List.getD_cons_zero]; (first | done | exact rfl)))); (simp only [rel.put_lit, List.set_cons_succ, List.set_cons_zero])))
  (apply rel.walk_val; (focus (intro wq hq hf; (have d0 := (B14.on hq).cell 0; simp only [List.getElem?_cons_zero] at d0); go_wp2; refine ⟨hq, Below.refl _ _, ?_, rfl⟩; (show rel.slot _ _ = _; simp only [rel.slot_lit, List.getD_cons_succ, List.getD_cons_zero]; (first | done | exact rfl)))); (simp only [rel.put_lit, List.set_cons_succ, List.set_cons_zero]))
  (apply rel.walk_rel (fun u w' => lst.IsList w' w'.heap.size u (t49)) ⟨_, rfl⟩ (fun u w1 w2 h1 h2 => h2.on h1); (focus (intro wq hq hf; go_wp2_with (go_at_call 30; refine (lst.keep_to ht49.out (f24.on hq) (F15.on hq) (by first | omega | simp)).mono ?_; rintro e w'' ⟨⟨u, rfl, hu⟩, hbb⟩); refine ⟨hq.trans (hbb.mono hq.size), hbb, ?_, rfl⟩; (show lst.IsList _ _ (rel.slot _ _) _; simp only [rel.slot_lit, List.getD_cons_succ, List.getD_cons_zero]; exact hu))); (intro u wu _ hu; obtain ⟨p48, rfl, -, -⟩ := hu; (simp only [rel.put_lit, List.set_cons_succ, List.set_cons_zero])))
  (apply rel.walk_val; (focus (intro wq hq hf; (have d0 := (B19.on hq).cell 0; simp only [List.getElem?_cons_zero] at d0); go_wp2; refine ⟨hq, Below.refl _ _, ?_, rfl⟩; (show rel.slot _ _ = _; simp only [rel.slot_lit, List.getD_cons_succ, List.getD_cons_zero]; (first | done | exact rfl)))); (simp only [rel.put_lit, List.set_cons_succ, List.set_cons_zero]))
  (apply rel.walk_rel (fun u w' => lst.IsList w' w'.heap.size u (t51)) ⟨_, rfl⟩ (fun u w1 w2 h1 h2 => h2.on h1); (focus (intro wq hq hf; go_wp2_with (go_at_call 30; refine (lst.keep_to ht51.out (hf.get 0 rfl rfl) (F20.on hq) (by first | omega | simp)).mono ?_; rintro e w'' ⟨⟨u, rfl, hu⟩, hbb⟩); refine ⟨hq.trans (hbb.mono hq.size), hbb, ?_, rfl⟩; (show lst.IsList _ _ (rel.slot _ _) _; simp only [rel.slot_lit, List.getD_cons_succ, List.getD_cons_zero]; exact hu))); (intro u wu _ hu; obtain ⟨p50, rfl, -, -⟩ := hu; (simp only [rel.put_lit, List.set_cons_succ, List.set_cons_zero])))
  (apply rel.walk_rel (fun u w' => hp.IsInts w' w'.heap.size u (t51)) ⟨_, rfl⟩ (fun u w1 w2 h1 h2 => h2.on h1); (focus (intro wq hq hf; go_wp2_with (go_at_call 15; refine (lst.ints_any _ t51 _ (hf.get 0 rfl rfl) (by first | omega | simp)).mono ?_; rintro e w'' ⟨⟨u, rfl, hu⟩, hbb⟩); refine ⟨hq.trans (hbb.mono hq.size), hbb, ?_, rfl⟩; (show hp.IsInts _ _ (rel.slot _ _) _; simp only [rel.slot_lit, List.getD_cons_succ, List.getD_cons_zero]; exact hu))); (intro u wu _ hu; obtain ⟨av52, cv52, rfl, -⟩ := hu; (simp only [rel.put_lit, List.set_cons_succ, List.set_cons_zero])))
  ((apply rel.walk_val; (focus (intro wq hq hf; (obtain ⟨d0, d1⟩ := ((B46).below hq (B46).lt).cells2); go_wp2; refine ⟨hq, Below.refl _ _, ?_, rfl⟩; (show rel.slot _ _ = _; simp only [rel.slot_lit, List.getD_cons_succ, List.getD_cons_zero]; (first | done | exact rfl)))); (simp only [rel.put_lit, List.set_cons_succ, List.set_cons_zero])))
  (apply rel.walk_rel (fun u w' => hp.IsInts w' w'.heap.size u (t42)) ⟨_, rfl⟩ (fun u w1 w2 h1 h2 => h2.on h1); (focus (intro wq hq hf; go_wp2_with (go_at_call 15; refine (lst.ints_any _ t42 _ (f44.on hq) (by first | omega | simp)).mono ?_; rintro e w'' ⟨⟨u, rfl, hu⟩, hbb⟩); refine ⟨hq.trans (hbb.mono hq.size), hbb, ?_, rfl⟩; (show hp.IsInts _ _ (rel.slot _ _) _; simp only [rel.slot_lit, List.getD_cons_succ, List.getD_cons_zero]; exact hu))); (intro u wu _ hu; obtain ⟨av53, cv53, rfl, -⟩ := hu; (simp only [rel.put_lit, List.set_cons_succ, List.set_cons_zero])))
  (apply rel.walk_val; (focus (intro wq hq hf; go_wp2_with (go_at_call 14; refine (same.ints_eq he54.out (hf.get 1 rfl rfl) (hf.get 0 rfl rfl)).mono ?_; rintro e w'' ⟨rfl, hbb⟩); refine ⟨hq.trans (hbb.mono hq.size), hbb, ?_, rfl⟩; (show rel.slot _ _ = _; simp only [rel.slot_lit, List.getD_cons_succ, List.getD_cons_zero]; (first | done | exact rfl)))); (simp only [rel.put_lit, List.set_cons_succ, List.set_cons_zero]))
  (apply rel.walk_val; (focus (intro wq hq hf; go_wp2; refine ⟨hq, Below.refl _ _, ?_, rfl⟩; (show rel.slot _ _ = _; simp only [rel.slot_lit, List.getD_cons_succ, List.getD_cons_zero]; (first | done | exact rfl)))); (simp only [rel.put_lit, List.set_cons_succ, List.set_cons_zero]))
  refine rel.walk_nil ?_
  intro W55 kwW55 hF
  clear hF
  replace i0 := i0.on kwW55
  replace B4 := B4.on kwW55
  replace B5 := B5.on kwW55
  replace B14 := B14.on kwW55
  replace F15 := F15.on kwW55
  replace B19 := B19.on kwW55
  replace F20 := F20.on kwW55
  replace f24 := f24.on kwW55
  replace B26 := B26.on kwW55
  replace f44 := f44.on kwW55
  replace B46 := B46.on kwW55
  replace hb := hb.trans (kwW55.mono hb.size)
  refine hK47.out _ _ ?_
  refine wp_seq_k fun K56 hK56 => ?_
  replace hK56 := Lib.hid hK56
  obtain ⟨t58, ht58, bt58⟩ := rel.name_list (l0.filter (np x1)) 17592186043904 (by have := List.length_filter_le (np x1) l0; omega)
  -- region 10 (low.go:166)
  apply rel.seq_tail (hn := by decide) (C := fun w' => Below W55.heap.size W55 w') (X := fun w w' => Below w.heap.size w w') 3 (by kernel_rfl) (by kernel_rfl) (Below.refl _ _)
  ((apply rel.walk_val; (focus (intro wq hq hf; (obtain ⟨d0, d1⟩ := ((B26).below hq (B26).lt).cells2); go_wp2; refine ⟨hq, Below.refl _ _, ?_, rfl⟩; (show rel.slot _ _ = _; simp only [rel.slot_lit, List.getD_cons_succ, List.getD_cons_zero]; (first | done | exact rfl)))); (simp only [rel.put_lit, List.set_cons_succ, List.set_cons_zero])))
  (apply rel.walk_val; (focus (intro wq hq hf; go_wp2; refine ⟨hq, Below.refl _ _, ?_, rfl⟩; (show rel.slot _ _ = _; simp only [rel.slot_lit, List.getD_cons_succ, List.getD_cons_zero]; (first | done | exact rfl)))); (simp only [rel.put_lit, List.set_cons_succ, List.set_cons_zero]))
  (apply rel.walk_rel (fun u w' => lst.IsList w' w'.heap.size u (t58)) ⟨_, rfl⟩ (fun u w1 w2 h1 h2 => h2.on h1); (focus (intro wq hq hf; go_wp2_with (go_at_call 30; refine (lst.keep_to ht58.out (f24.on hq) (fn_np (B14.on hq) (F15.on hq)) (by first | omega | simp)).mono ?_; rintro e w'' ⟨⟨u, rfl, hu⟩, hbb⟩); refine ⟨hq.trans (hbb.mono hq.size), hbb, ?_, rfl⟩; (show lst.IsList _ _ (rel.slot _ _) _; simp only [rel.slot_lit, List.getD_cons_succ, List.getD_cons_zero]; exact hu))); (intro u wu _ hu; obtain ⟨p57, rfl, -, -⟩ := hu; (simp only [rel.put_lit, List.set_cons_succ, List.set_cons_zero])))
  refine rel.walk_nil ?_
  intro W59 kwW59 hF
  have f60 : lst.IsList W59 W59.heap.size (lst.lv p57 t58.length) t58 := rel.fact hF 0 rfl
  clear hF
  replace i0 := i0.on kwW59
  replace B4 := B4.on kwW59
  replace B5 := B5.on kwW59
  replace B14 := B14.on kwW59
  replace F15 := F15.on kwW59
  replace B19 := B19.on kwW59
  replace F20 := F20.on kwW59
  replace f24 := f24.on kwW59
  replace B26 := B26.on kwW59
  replace f44 := f44.on kwW59
  replace B46 := B46.on kwW59
  replace hb := hb.trans (kwW59.mono hb.size)
  simp only [List.drop_succ_cons, List.drop_zero]
  go_wp2
  obtain ⟨W61, hW61⟩ : ∃ x, (W59.alloc (.cells #[.pointer p57, .int .i64 t58.length] 26)) = x := ⟨_, rfl⟩
  have B62 : hp.Blk W61 (W59.heap.size) 26 [.pointer p57, .int .i64 t58.length] := by rw [← hW61]; (first | exact hp.Blk.newAt (by simp) | exact (hp.Blk.newAt (by simp)).alloc _ | exact ((hp.Blk.newAt (by simp)).alloc _).alloc _ | exact (((hp.Blk.newAt (by simp)).alloc _).alloc _).alloc _ | exact ((((hp.Blk.newAt (by simp)).alloc _).alloc _).alloc _).alloc _ | exact (((((hp.Blk.newAt (by simp)).alloc _).alloc _).alloc _).alloc _).alloc _)
  have kwW61 : Below W59.heap.size W59 W61 := by rw [← hW61]; ((repeat' (first | with_reducible exact Below.refl _ _ | with_reducible apply Below.setCell | with_reducible apply below_drewN | with_reducible apply Below.drew | with_reducible apply Below.alloc | with_reducible refine Below.trans ?_ (Below.mono (by assumption) ?_))) <;> (first | (simp; done) | (simp; omega) | omega))
  rw [hW61]
  clear hW61
  replace i0 := i0.on kwW61
  replace B4 := B4.on kwW61
  replace B5 := B5.on kwW61
  replace B14 := B14.on kwW61
  replace F15 := F15.on kwW61
  replace B19 := B19.on kwW61
  replace F20 := F20.on kwW61
  replace f24 := f24.on kwW61
  replace B26 := B26.on kwW61
  replace f44 := f44.on kwW61
  replace B46 := B46.on kwW61
  replace f60 := f60.on kwW61
  replace hb := hb.trans (kwW61.mono hb.size)
  refine hK56.out _ _ ?_
  refine wp_seq_k fun K63 hK63 => ?_
  replace hK63 := Lib.hid hK63
  obtain ⟨t65, ht65, bt65⟩ := rel.name_list (l0.filter (pA x1)) 17592186043904 (by have := List.length_filter_le (pA x1) l0; omega)
  obtain ⟨t67, ht67, bt67⟩ := rel.name_list (l0.filter (pA x1)) 17592186043904 (by have := List.length_filter_le (pA x1) l0; omega)
  -- region 11 (low.go:167)
  apply rel.region (C := fun w' => Below W61.heap.size W61 w') (X := fun w w' => Below w.heap.size w w') (by kernel_rfl) (by kernel_rfl) (by kernel_rfl) ((Below.refl _ _).drew)
  (apply rel.walk_val; (focus (intro wq hq hf; go_wp2; refine ⟨hq, Below.refl _ _, ?_, rfl⟩; (show rel.slot _ _ = _; simp only [rel.slot_lit, List.getD_cons_succ, List.getD_cons_zero]; (first | done | exact rfl)))); (simp only [rel.put_lit, List.set_cons_succ, List.set_cons_zero]))
  (apply rel.walk_val; (focus (intro wq hq hf; go_wp2; refine ⟨hq, Below.refl _ _, ?_, rfl⟩; (show rel.slot _ _ = _; simp only [rel.slot_lit, List.getD_cons_succ, List.getD_cons_zero]; (first | done | exact rfl)))); (simp only [rel.put_lit, List.set_cons_succ, List.set_cons_zero]))
  (apply rel.walk_val; (focus (intro wq hq hf; go_wp2; refine ⟨hq, Below.refl _ _, ?_, rfl⟩; (show rel.slot _ _ = _; simp only [rel.slot_lit, List.getD_cons_succ, List.getD_cons_zero]; (first | done | exact rfl)))); (simp only [rel.put_lit, List.set_cons_succ, List.set_cons_zero]))
  (apply rel.walk_val; (focus (intro wq hq hf; go_wp2; refine ⟨hq, Below.refl _ _, ?_, rfl⟩; (show rel.slot _ _ = _; simp only [rel.slot_lit, List.getD_cons_succ, List.getD_cons_zero]; (first | done | exact rfl)))); (simp only [rel.put_lit, List.set_cons_succ, List.set_cons_zero]))
  (apply rel.walk_val; (focus (intro wq hq hf; go_wp2; refine ⟨hq, Below.refl _ _, ?_, rfl⟩; (show rel.slot _ _ = _; simp only [rel.slot_lit, List.getD_cons_succ, List.getD_cons_zero]; (first | done | exact rfl)))); (simp only [rel.put_lit, List.set_cons_succ, List.set_cons_zero]))
  ((apply rel.walk_val; (focus (intro wq hq hf; (obtain ⟨d0, d1⟩ := ((B26).below hq (B26).lt).cells2); go_wp2; refine ⟨hq, Below.refl _ _, ?_, rfl⟩; (show rel.slot _ _ = _; simp only [rel.slot_lit, List.getD_cons_succ, List.getD_cons_zero]; (first | done | exact rfl)))); (simp only [rel.put_lit, List.set_cons_succ, List.set_cons_zero])))
  (apply rel.walk_val; (focus (intro wq hq hf; (have d0 := (B14.on hq).cell 0; simp only [List.getElem?_cons_zero] at d0); go_wp2; refine ⟨hq, Below.refl _ _, ?_, rfl⟩; (show rel.slot _ _ = _; simp only [rel.slot_lit, List.getD_cons_succ, List.getD_cons_zero]; (first | done | exact rfl)))); (simp only [rel.put_lit, List.set_cons_succ, List.set_cons_zero]))
  (apply rel.walk_rel (fun u w' => lst.IsList w' w'.heap.size u (t65)) ⟨_, rfl⟩ (fun u w1 w2 h1 h2 => h2.on h1); (focus (intro wq hq hf; go_wp2_with (go_at_call 30; refine (lst.keep_to ht65.out (f24.on hq) (F15.on hq) (by first | omega | simp)).mono ?_; rintro e w'' ⟨⟨u, rfl, hu⟩, hbb⟩); refine ⟨hq.trans (hbb.mono hq.size), hbb, ?_, rfl⟩; (show lst.IsList _ _ (rel.slot _ _) _; simp only [rel.slot_lit, List.getD_cons_succ, List.getD_cons_zero]; exact hu))); (intro u wu _ hu; obtain ⟨p64, rfl, -, -⟩ := hu; (simp only [rel.put_lit, List.set_cons_succ, List.set_cons_zero])))
  (apply rel.walk_val; (focus (intro wq hq hf; go_wp2_with (go_at_call 17; refine (lst.len_raw _ _ _).mono ?_; rintro e w'' ⟨rfl, hbb⟩); refine ⟨hq.trans (hbb.mono hq.size), hbb, ?_, rfl⟩; (show rel.slot _ _ = _; simp only [rel.slot_lit, List.getD_cons_succ, List.getD_cons_zero]; (first | done | exact rfl)))); (simp only [rel.put_lit, List.set_cons_succ, List.set_cons_zero]))
  ((apply rel.walk_val; (focus (intro wq hq hf; (obtain ⟨d0, d1⟩ := ((B62).below hq (B62).lt).cells2); go_wp2; refine ⟨hq, Below.refl _ _, ?_, rfl⟩; (show rel.slot _ _ = _; simp only [rel.slot_lit, List.getD_cons_succ, List.getD_cons_zero]; (first | done | exact rfl)))); (simp only [rel.put_lit, List.set_cons_succ, List.set_cons_zero])))
  (apply rel.walk_val; (focus (intro wq hq hf; go_wp2_with (go_at_call 17; refine (lst.len_raw _ _ _).mono ?_; rintro e w'' ⟨rfl, hbb⟩); refine ⟨hq.trans (hbb.mono hq.size), hbb, ?_, rfl⟩; (show rel.slot _ _ = _; simp only [rel.slot_lit, List.getD_cons_succ, List.getD_cons_zero]; (first | done | exact rfl)))); (simp only [rel.put_lit, List.set_cons_succ, List.set_cons_zero]))
  (apply rel.walk_val; (focus (intro wq hq hf; go_wp2; refine ⟨hq, Below.refl _ _, ?_, rfl⟩; (show rel.slot _ _ = _; simp only [rel.slot_lit, List.getD_cons_succ, List.getD_cons_zero]; (first | done | exact rfl)))); (simp only [rel.put_lit, List.set_cons_succ, List.set_cons_zero]))
  (apply rel.walk_val; (focus (intro wq hq hf; go_wp2; refine ⟨hq, Below.refl _ _, ?_, rfl⟩; (show rel.slot _ _ = _; simp only [rel.slot_lit, List.getD_cons_succ, List.getD_cons_zero]; (first | done | exact rfl)))); (simp only [rel.put_lit, List.set_cons_succ, List.set_cons_zero]))
  (apply rel.walk_val; (focus (intro wq hq hf; go_wp2; refine ⟨hq, Below.refl _ _, ?_, rfl⟩; (show rel.slot _ _ = _; simp only [rel.slot_lit, List.getD_cons_succ, List.getD_cons_zero]; (first | done | exact rfl)))); (simp only [rel.put_lit, List.set_cons_succ, List.set_cons_zero]))
  (apply rel.walk_val; (focus (intro wq hq hf; (have elen : t65.length + t58.length = l0.length := (by rw [← ht65.out, ← ht58.out]; exact keep_len x1 l0); have elen2 : (t65.length : Int) + (t58.length : Int) = (l0.length : Int) := (by omega)); go_wp2; refine ⟨hq, Below.refl _ _, ?_, rfl⟩; (show rel.slot _ _ = _; simp only [rel.slot_lit, List.getD_cons_succ, List.getD_cons_zero]; (first | done | exact rfl)))); (simp only [rel.put_lit, List.set_cons_succ, List.set_cons_zero]))
  (apply rel.walk_val; (focus (intro wq hq hf; go_wp2; refine ⟨hq, Below.refl _ _, ?_, rfl⟩; (show rel.slot _ _ = _; simp only [rel.slot_lit, List.getD_cons_succ, List.getD_cons_zero]; (first | done | exact rfl)))); (simp only [rel.put_lit, List.set_cons_succ, List.set_cons_zero]))
  (apply rel.walk_val; (focus (intro wq hq hf; go_wp2; refine ⟨hq, Below.refl _ _, ?_, rfl⟩; (show rel.slot _ _ = _; simp only [rel.slot_lit, List.getD_cons_succ, List.getD_cons_zero]; (first | done | exact rfl)))); (simp only [rel.put_lit, List.set_cons_succ, List.set_cons_zero]))
  ((apply rel.walk_val; (focus (intro wq hq hf; (obtain ⟨d0, d1⟩ := ((B26).below hq (B26).lt).cells2); go_wp2; refine ⟨hq, Below.refl _ _, ?_, rfl⟩; (show rel.slot _ _ = _; simp only [rel.slot_lit, List.getD_cons_succ, List.getD_cons_zero]; (first | done | exact rfl)))); (simp only [rel.put_lit, List.set_cons_succ, List.set_cons_zero])))
  (apply rel.walk_val; (focus (intro wq hq hf; (have d0 := (B14.on hq).cell 0; simp only [List.getElem?_cons_zero] at d0); go_wp2; refine ⟨hq, Below.refl _ _, ?_, rfl⟩; (show rel.slot _ _ = _; simp only [rel.slot_lit, List.getD_cons_succ, List.getD_cons_zero]; (first | done | exact rfl)))); (simp only [rel.put_lit, List.set_cons_succ, List.set_cons_zero]))
  (apply rel.walk_rel (fun u w' => lst.IsList w' w'.heap.size u (t67)) ⟨_, rfl⟩ (fun u w1 w2 h1 h2 => h2.on h1); (focus (intro wq hq hf; go_wp2_with (go_at_call 30; refine (lst.keep_to ht67.out (f24.on hq) (F15.on hq) (by first | omega | simp)).mono ?_; rintro e w'' ⟨⟨u, rfl, hu⟩, hbb⟩); refine ⟨hq.trans (hbb.mono hq.size), hbb, ?_, rfl⟩; (show lst.IsList _ _ (rel.slot _ _) _; simp only [rel.slot_lit, List.getD_cons_succ, List.getD_cons_zero]; exact hu))); (intro u wu _ hu; obtain ⟨p66, rfl, -, -⟩ := hu; (simp only [rel.put_lit, List.set_cons_succ, List.set_cons_zero])))
  (apply rel.walk_val; (focus (intro wq hq hf; go_wp2_with (go_at_call 17; refine (lst.len_raw _ _ _).mono ?_; rintro e w'' ⟨rfl, hbb⟩); refine ⟨hq.trans (hbb.mono hq.size), hbb, ?_, rfl⟩; (show rel.slot _ _ = _; simp only [rel.slot_lit, List.getD_cons_succ, List.getD_cons_zero]; (first | done | exact rfl)))); (simp only [rel.put_lit, List.set_cons_succ, List.set_cons_zero]))
  (apply rel.walk_val; (focus (intro wq hq hf; go_wp2; refine ⟨hq, Below.refl _ _, ?_, rfl⟩; (show rel.slot _ _ = _; simp only [rel.slot_lit, List.getD_cons_succ, List.getD_cons_zero]; (first | done | exact rfl)))); (simp only [rel.put_lit, List.set_cons_succ, List.set_cons_zero]))
  (apply rel.walk_val; (focus (intro wq hq hf; (have d0 := (B4.on hq).cell 0; simp only [List.getElem?_cons_zero] at d0); go_wp2; refine ⟨hq, Below.refl _ _, ?_, rfl⟩; (show rel.slot _ _ = _; simp only [rel.slot_lit, List.getD_cons_succ, List.getD_cons_zero]; (first | done | exact rfl)))); (simp only [rel.put_lit, List.set_cons_succ, List.set_cons_zero]))
  (apply rel.walk_val; (focus (intro wq hq hf; go_wp2_with (go_at_call 33; refine (same.below_any _ l0 x1 _ (i0.on hq)).mono ?_; rintro e w'' ⟨rfl, hbb⟩); refine ⟨hq.trans (hbb.mono hq.size), hbb, ?_, rfl⟩; (show rel.slot _ _ = _; simp only [rel.slot_lit, List.getD_cons_succ, List.getD_cons_zero]; (first | done | exact rfl)))); (simp only [rel.put_lit, List.set_cons_succ, List.set_cons_zero]))
  (apply rel.walk_val; (focus (intro wq hq hf; (have ecnt : t67.length = same.cnt l0 x1 := (by rw [← ht67.out]; exact keep_cnt x1 l0)); go_wp2; refine ⟨hq, Below.refl _ _, ?_, rfl⟩; (show rel.slot _ _ = _; simp only [rel.slot_lit, List.getD_cons_succ, List.getD_cons_zero]; (first | done | exact rfl)))); (simp only [rel.put_lit, List.set_cons_succ, List.set_cons_zero]))
  (apply rel.walk_val; (focus (intro wq hq hf; go_wp2; refine ⟨hq, Below.refl _ _, ?_, rfl⟩; (show rel.slot _ _ = _; simp only [rel.slot_lit, List.getD_cons_succ, List.getD_cons_zero]; (first | done | exact rfl)))); (simp only [rel.put_lit, List.set_cons_succ, List.set_cons_zero]))
  (apply rel.walk_val; (focus (intro wq hq hf; go_wp2; refine ⟨hq, Below.refl _ _, ?_, rfl⟩; (show rel.slot _ _ = _; simp only [rel.slot_lit, List.getD_cons_succ, List.getD_cons_zero]; (first | done | exact rfl)))); (simp only [rel.put_lit, List.set_cons_succ, List.set_cons_zero]))
  refine rel.walk_nil ?_
  intro W68 kwW68 hF
  clear hF
  replace i0 := i0.on kwW68
  replace B4 := B4.on kwW68
  replace B5 := B5.on kwW68
  replace B14 := B14.on kwW68
  replace F15 := F15.on kwW68
  replace B19 := B19.on kwW68
  replace F20 := F20.on kwW68
  replace f24 := f24.on kwW68
  replace B26 := B26.on kwW68
  replace f44 := f44.on kwW68
  replace B46 := B46.on kwW68
  replace f60 := f60.on kwW68
  replace B62 := B62.on kwW68
  replace hb := hb.trans (kwW68.mono hb.size)
  refine hK63.out _ _ ?_
  refine wp_ret ?_
  go_ret
  exact ⟨rfl, hb⟩

end Go.Proofs.Ytkhnfkejmhhcjaa.listKeeps
