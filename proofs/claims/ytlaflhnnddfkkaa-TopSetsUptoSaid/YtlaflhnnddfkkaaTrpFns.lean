/- Package treap: a growing tree, and a tree that is taken apart: the steps. -/
import Derived.Test.YtlaflhnnddfkkaaTrpMem
import Derived.BigRegion
import Derived.Deep.LoopGhost
namespace Go.Proofs.Ytlaflhnnddfkkaa.trp
open Go Go.RowKit
open Go.Proofs.Ytlaflhnnddfkkaa.sch
set_option linter.unusedVariables false

/-- does a greater number of this priority belong below all that wait? -/
def outr (st : Pth) (m : Int) : Bool :=
  match st with
  | [] => true
  | q :: _ => decide (m ≤ prio q.2.1)

set_option maxHeartbeats 4000000 in
theorem outranks_any {W : World} {base b : Nat} {r : Option Nat} {st : Pth} {T : Tr} {v : Value} {p : Option Addr} (h : Gm W base b r st T v p) (m : Int) (hl : st.length < 4611686018427387904) :
    Calls Try.prog 94 #[.pointer (some ⟨b, 0, none⟩), .int .i64 m] W fun e W' => e = .returned (.bool (outr st m)) ∧ Below W.heap.size W W' := by
  have c0 := h.box.cell 0
  have l0 := h.box.lt
  have hrow := h.row
  simp only [List.getElem?_cons_zero] at c0
  clear h
  rcases st with _ | ⟨q, st⟩
  · obtain ⟨a, c, rfl⟩ := rowN_val hrow
    simp only [List.length_nil, outr] at *
    clear hrow
    go_enter Try.func94, Try.ntmps94
    go_wp2_with fail
    go_big_region
    go_wp2_with fail
    go_ret
    exact ⟨rfl, (Below.refl _ _).drew⟩
  · obtain ⟨g, cap, rfl, -, hgl, hcap, hc, -⟩ := rowN_cell hrow (by simp)
    have d1 := hc (st.length * 4 + 1) (.int .i64 (prio q.2.1)) (by show (fl st ++ cellsOf q)[_]? = _; rw [List.getElem?_append_right (by rw [fl_len]; omega), fl_len, Nat.add_sub_cancel_left]; rfl)
    obtain ⟨n, hn⟩ : ∃ n, st.length = n := ⟨_, rfl⟩
    simp only [List.length_cons, hn] at *
    rw [show outr (q :: st) m = decide (m ≤ prio q.2.1) from rfl]
    have g1 : (((n + 1 : Nat) : Int) == 0) = false := by rw [beq_eq_false_iff_ne]; omega
    have g2 : ((n : Int) + 1 == 0) = false := by rw [beq_eq_false_iff_ne]; omega
    clear hrow hc hn
    generalize prio q.2.1 = y at *
    go_enter Try.func94, Try.ntmps94
    go_wp2_with fail
    go_big_region
    go_wp2_with fail
    go_ret
    exact ⟨rfl, (Below.refl _ _).drew⟩

theorem lt_of_cell {w : World} {g j : Nat} {u : Value} (h : w.cell? ⟨g, j, none⟩ = some u) : g < w.heap.size := World.block_lt_of_cell? _ _ h
/-- nothing is left -/
def emp (t : Tr) (st : Wt) : Bool :=
  match t, st with
  | .nil, [] => true
  | _, _ => false

set_option maxHeartbeats 4000000 in
theorem isEmpty_any {w W : World} {b : Nat} {r : Option Nat} {t : Tr} {st : Wt} {v : Value} {p : Option Addr} (h : Rs w W b r t st v p) (hl : st.length < 4611686018427387904) :
    Calls Try.prog 79 #[.pointer (some ⟨b, 0, none⟩)] W fun e W' => e = .returned (.bool (emp t st)) ∧ W = W' := by
  have c0 := h.box.cell 0
  have c1 := h.box.cell 1
  have l0 := h.box.lt
  obtain ⟨a, cap, rfl⟩ := rowN_val h.row
  have hn := h.tree
  simp only [List.getElem?_cons_zero, List.getElem?_cons_succ] at c0 c1
  clear h
  rcases t with _ | ⟨x, m, l, k⟩
  · obtain rfl : p = none := hn
    rcases st with _ | ⟨q, st⟩
    · simp only [List.length_nil, emp] at *
      go_enter Try.func79, Try.ntmps79
      go_wp2_with fail
      go_ret
      exact ⟨rfl, rfl⟩
    · simp only [List.length_cons, emp] at *
      obtain ⟨n, hn⟩ : ∃ n, st.length = n := ⟨_, rfl⟩
      simp only [hn] at *
      go_enter Try.func79, Try.ntmps79
      go_wp2_with fail
      go_ret
      exact ⟨rfl, rfl⟩
  · obtain ⟨g, c, d, rfl, -⟩ := hn
    have he : emp (.node x m l k) st = false := rfl
    rw [he]
    obtain ⟨n, hn⟩ : ∃ n, st.length = n := ⟨_, rfl⟩
    rw [hn] at *
    go_enter Try.func79, Try.ntmps79
    go_wp2_with fail
    go_ret
    exact ⟨rfl, rfl⟩

/-- is what is at the beginning less than all of the other? -/
def bef (t : Tr) (st : Wt) (t' : Tr) (st' : Wt) : Bool :=
  if emp t st || emp t' st' then !emp t st else
  match t', st, st' with
  | .nil, (_, .node x _ _ _) :: _, (_, .node y _ _ _) :: _ => decide (x < y)
  | _, _, _ => false

set_option maxHeartbeats 8000000 in
theorem isBefore_any {w W : World} {b b' : Nat} {r r' : Option Nat} {t t' : Tr} {st st' : Wt} {v v' : Value} {p p' : Option Addr} (h : Rs w W b r t st v p) (h' : Rs w W b' r' t' st' v' p') (hl : st.length < 4611686018427387904) (hl' : st'.length < 4611686018427387904) :
    Calls Try.prog 80 #[.pointer (some ⟨b, 0, none⟩), .pointer (some ⟨b', 0, none⟩)] W fun e W' => e = .returned (.bool (bef t st t' st')) ∧ Below W.heap.size W W' := by
  have e1 := isEmpty_any h hl
  have e2 := isEmpty_any h' hl'
  have c0 := h.box.cell 0
  have c1 := h.box.cell 1
  have l0 := h.box.lt
  have d0 := h'.box.cell 0
  have d1 := h'.box.cell 1
  have m0 := h'.box.lt
  simp only [List.getElem?_cons_zero, List.getElem?_cons_succ] at c0 c1 d0 d1
  by_cases hE : emp t st = true ∨ emp t' st' = true
  · have hb : bef t st t' st' = !emp t st := by unfold bef; rw [if_pos (by simpa using hE)]
    rw [hb]
    clear hb h h'
    rcases hf1 : emp t st with _ | _
    · have hf2 : emp t' st' = true := by simpa [hf1] using hE
      rw [hf1] at e1
      rw [hf2] at e2
      clear hE
      go_enter Try.func80, Try.ntmps80
      go_wp2_with (first
        | (go_at_call 79; (with_reducible refine e1.mono ?_); rintro e w1 ⟨rfl, rfl⟩)
        | (go_at_call 79; (with_reducible refine e2.mono ?_); rintro e w1 ⟨rfl, rfl⟩))
      go_ret
      exact ⟨rfl, Below.refl _ _⟩
    · rw [hf1] at e1
      clear hE e2
      go_enter Try.func80, Try.ntmps80
      go_wp2_with (go_at_call 79; (with_reducible refine e1.mono ?_); rintro e w1 ⟨rfl, rfl⟩)
      go_ret
      exact ⟨rfl, Below.refl _ _⟩
  · have hf1 : emp t st = false := by cases he : emp t st <;> simp_all
    have hf2 : emp t' st' = false := by cases he : emp t' st' <;> simp_all
    rw [hf1] at e1
    rw [hf2] at e2
    have hrow := h.row
    have hrow' := h'.row
    have hup := h.up
    have hup' := h'.up
    have hbl := h.below
    have ht := h'.tree
    clear h h' hE
    rcases t' with _ | ⟨x2, m2, l2, k2⟩
    · obtain rfl : p' = none := ht
      rcases st with _ | ⟨⟨q1, s1⟩, st⟩
      · have hb : bef t [] .nil st' = false := by
          unfold bef
          rw [if_neg (by simp [hf1, hf2])]
        rw [hb]
        obtain ⟨a, cap, rfl⟩ := rowN_val hrow
        obtain ⟨a2, cap2, rfl⟩ := rowN_val hrow'
        simp only [List.length_nil] at *
        obtain ⟨n2, hn2⟩ : ∃ n, st'.length = n := ⟨_, rfl⟩
        rw [hn2] at *
        clear hrow hrow' hup hup' hb hf1 hf2 hn2
        go_enter Try.func80, Try.ntmps80
        go_wp2_with (first
          | (go_at_call 79; (with_reducible refine e1.mono ?_); rintro e w1 ⟨rfl, rfl⟩)
          | (go_at_call 79; (with_reducible refine e2.mono ?_); rintro e w1 ⟨rfl, rfl⟩))
        go_ret
        exact ⟨rfl, Below.refl _ _⟩
      · rcases st' with _ | ⟨⟨q2, s2⟩, st'⟩
        · simp [emp] at hf2
        obtain ⟨hn1, hne1⟩ := hup (q1, s1) (List.mem_cons_self ..)
        obtain ⟨hn2, hne2⟩ := hup' (q2, s2) (List.mem_cons_self ..)
        rcases s1 with _ | ⟨x, mx, lx, kx⟩
        · exact absurd rfl hne1
        rcases s2 with _ | ⟨y, my, ly, ky⟩
        · exact absurd rfl hne2
        have hb : bef t ((q1, .node x mx lx kx) :: st) .nil ((q2, .node y my ly ky) :: st') = decide (x < y) := by
          unfold bef
          rw [if_neg (by simp [hf1, hf2])]
        rw [hb]
        obtain ⟨g1, a1, a2, rfl, hg1, hk1, -, -⟩ := hn1
        obtain ⟨g2, a3, a4, rfl, hg2, hk2, -, -⟩ := hn2
        have k1 := (hk1.below hbl hg1).cell 0
        have k2 := (hk2.below hbl hg2).cell 0
        simp only [List.getElem?_cons_zero] at k1 k2
        have j1 := Nat.lt_of_lt_of_le hg1 hbl.size
        have j2 := Nat.lt_of_lt_of_le hg2 hbl.size
        rw [ptrs_cons, List.length_cons, ← ptrs_len st] at hrow
        rw [ptrs_cons, List.length_cons, ← ptrs_len st'] at hrow'
        obtain ⟨gr1, cap1, rfl, hc1, hcap1, -⟩ := row_last hrow
        obtain ⟨gr2, cap2, rfl, hc2, hcap2, -⟩ := row_last hrow'
        rw [ptrs_len] at *
        have i1 := lt_of_cell hc1
        have i2 := lt_of_cell hc2
        simp only [List.length_cons] at *
        obtain ⟨n1, hn1⟩ : ∃ n, st.length = n := ⟨_, rfl⟩
        obtain ⟨n2, hn2⟩ : ∃ n, st'.length = n := ⟨_, rfl⟩
        rw [hn1] at *
        rw [hn2] at *
        have q1 : (((n1 + 1 : Nat) : Int) == 0) = false := by rw [beq_eq_false_iff_ne]; omega
        have q2 : ((n1 : Int) + 1 == 0) = false := by rw [beq_eq_false_iff_ne]; omega
        clear hrow hrow' hup hup' hb hf1 hf2 hn2 hn1 hk1 hk2 hbl
        go_enter Try.func80, Try.ntmps80
        go_wp2_with (first
          | (go_at_call 79; (with_reducible refine e1.mono ?_); rintro e w1 ⟨rfl, rfl⟩)
          | (go_at_call 79; (with_reducible refine e2.mono ?_); rintro e w1 ⟨rfl, rfl⟩))
        go_big_region
        go_wp2_with fail
        go_ret
        exact ⟨rfl, (Below.refl _ _).drew⟩
    · have hb : bef t st (.node x2 m2 l2 k2) st' = false := by
        unfold bef
        rw [if_neg (by simp [hf1, hf2])]
      rw [hb]
      obtain ⟨g, c, d, rfl, -⟩ := ht
      obtain ⟨a, cap, rfl⟩ := rowN_val hrow
      obtain ⟨a2, cap2, rfl⟩ := rowN_val hrow'
      obtain ⟨n1, hn1⟩ : ∃ n, st.length = n := ⟨_, rfl⟩
      obtain ⟨n2, hn2⟩ : ∃ n, st'.length = n := ⟨_, rfl⟩
      rw [hn1] at *
      rw [hn2] at *
      clear hrow hrow' hup hup' hb hf1 hf2 hn2 hn1
      go_enter Try.func80, Try.ntmps80
      go_wp2_with (first
        | (go_at_call 79; (with_reducible refine e1.mono ?_); rintro e w1 ⟨rfl, rfl⟩)
        | (go_at_call 79; (with_reducible refine e2.mono ?_); rintro e w1 ⟨rfl, rfl⟩))
      go_ret
      exact ⟨rfl, Below.refl _ _⟩
end Go.Proofs.Ytlaflhnnddfkkaa.trp
