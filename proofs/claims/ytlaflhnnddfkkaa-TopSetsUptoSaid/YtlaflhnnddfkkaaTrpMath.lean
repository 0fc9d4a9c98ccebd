/- Package treap: one round of two trees that are taken apart: plain mathematics. -/
import Derived.Test.YtlaflhnnddfkkaaTrpTake
namespace Go.Proofs.Ytlaflhnnddfkkaa.trp
open Go Go.RowKit
open Go.Proofs.Ytlaflhnnddfkkaa.sch
set_option linter.unusedVariables false

/-- what may hang below: nothing; or what the next number has below it -/
def Cnd (T t1 t2 : Tr) (A B : List Int) : Prop :=
  T = .nil ∨ (t1 = .nil ∧ t2 = .nil ∧ (∀ y A', A = y :: A' → (∀ z B', B = z :: B' → y < z) → mkLt T (prio y)) ∧ (∀ z B', B = z :: B' → (∀ y A', A = y :: A' → z < y) → mkLt T (prio z)) ∧ (∀ y z A' B', A = y :: A' → B = z :: B' → y ≠ z))
theorem Cnd.symm {T t1 t2 : Tr} {A B : List Int} (h : Cnd T t1 t2 A B) : Cnd T t2 t1 B A := by
  rcases h with h | ⟨h1, h2, h3, h4, h5⟩
  · exact .inl h
  · exact .inr ⟨h2, h1, h4, h3, fun y z A' B' e e' h => h5 z y B' A' e' e h.symm⟩

/-- a tree in parts: t, and those that wait -/
structure Prt (t : Tr) (st : Wt) (A : List Int) : Prop where
  tp : Tp (rem t st)
  ks : keys t ++ rest st = A
  asc : Asc A
  ne : ∀ q ∈ st, q.2 ≠ .nil

section
variable {t : Tr} {st : Wt} {A : List Int}
theorem Prt.tree (h : Prt t st A) : Tp t := rem_tp h.tp
theorem Prt.emp_iff (h : Prt t st A) : emp t st = true ↔ A = [] := by
  rcases t with _ | ⟨x, m, l, r⟩
  · rcases st with _ | ⟨⟨p, s⟩, st⟩
    · have := h.ks
      simp [keys, rest] at this
      subst this
      simp [emp]
    · have h1 := h.ne (p, s) (by simp)
      rcases s with _ | ⟨x, m, l, r⟩
      · exact absurd rfl h1
      · have := h.ks
        rw [rest_cons] at this
        simp [keys, after] at this
        subst this
        simp [emp]
  · have := h.ks
    constructor
    · intro e; cases e
    · intro e
      rw [e] at this
      simp [keys] at this
theorem Prt.len (h : Prt t st A) : st.length ≤ A.length := by
  have h1 : st.length ≤ (rest st).length := by
    have := h.ne
    clear h
    induction st with
    | nil => simp
    | cons q st ih =>
      have h1 := ih fun q hq => this q (by simp [hq])
      have h2 := this q (by simp)
      rw [rest_cons, List.length_append, List.length_cons]
      rcases hq : q.2 with _ | ⟨x, m, l, r⟩
      · exact absurd hq h2
      · simp [after]; omega
  rw [← h.ks, List.length_append]
  omega
/-- it is opened -/
theorem Prt.open {x m : Int} {l k : Tr} {p : Option Addr} (h : Prt (.node x m l k) st A) : Prt l ((p, .node x m l k) :: st) A :=
  ⟨h.tp, by rw [← h.ks, rest_cons]; simp [keys, after], h.asc, fun q hq => by
    rcases List.mem_cons.1 hq with rfl | hq
    · simp
    · exact h.ne q hq⟩
/-- its first number is taken -/
theorem Prt.next {x m : Int} {l k : Tr} {p : Option Addr} (h : Prt .nil ((p, .node x m l k) :: st) A) : ∃ A', A = x :: A' ∧ Prt k st A' := by
  have h0 : Tp (rem (.node x m .nil k) st) := h.tp
  obtain ⟨a0, a1, a2, a3, a4⟩ := rem_tp h0
  have hk := h.ks
  rw [rest_cons] at hk
  simp only [keys, after, List.nil_append, List.cons_append] at hk
  refine ⟨_, hk.symm, ⟨rem_put (t := .node x m .nil k) h0 a4 fun j hj => a2.lt (show m < j from hj), rfl, ?_, fun q hq => h.ne q (by simp [hq])⟩⟩
  have := h.asc
  rw [← hk] at this
  exact (List.pairwise_cons.1 this).2
/-- the tree at the beginning is taken -/
theorem Prt.cut (h : Prt t st A) : Prt .nil st (rest st) ∧ A = keys t ++ rest st :=
  ⟨⟨rem_put h.tp trivial fun _ _ => trivial, by simp [keys], by have := h.asc; rw [← h.ks] at this; exact (List.pairwise_append.1 this).2.1, h.ne⟩, h.ks.symm⟩
/-- what is right behind the tree has more -/
theorem Prt.behind {x m : Int} {l k : Tr} {p : Option Addr} (h : Prt t ((p, .node x m l k) :: st) A) : mkLt t (prio x) ∧ ∃ A', A = keys t ++ x :: A' := by
  have h0 : Tp (rem (.node x m t k) st) := h.tp
  obtain ⟨rfl, a1, a2, a3, a4⟩ := rem_tp h0
  have hk := h.ks
  rw [rest_cons] at hk
  exact ⟨a1, _, by rw [← hk]; rfl⟩
end

/-- one round's numbers, before and behind: f: those that both have stay; K: all at last; M: how many both had; c: how many both have so far -/
structure Mst (f : Bool) (K : List Int) (M a : Nat) (D : List Int) (T t1 t2 : Tr) (st1 st2 : Wt) (A B : List Int) (c : Nat) : Prop where
  one : Prt t1 st1 A
  two : Prt t2 st2 B
  all : D ++ mrg f A B = K
  cnt : f = true → D.length + A.length + B.length + c = M
  bound : c + A.length + B.length ≤ a ∧ D.length + A.length + B.length ≤ a
  cnd : Cnd T t1 t2 A B
theorem Mst.symm {f : Bool} {K : List Int} {M a : Nat} {D : List Int} {T t1 t2 : Tr} {st1 st2 : Wt} {A B : List Int} {c : Nat} (h : Mst f K M a D T t1 t2 st1 st2 A B c) : Mst f K M a D T t2 t1 st2 st1 B A c :=
  ⟨h.two, h.one, by rw [mrg_comm]; exact h.all, fun e => by have := h.cnt e; omega, by have := h.bound; omega, h.cnd.symm⟩

/-- when one is before the other: what is known of it -/
theorem bef_spec {t1 t2 : Tr} {st1 st2 : Wt} {A B : List Int} (h1 : Prt t1 st1 A) (h2 : Prt t2 st2 B) (hb : bef t1 st1 t2 st2 = true) :
    A ≠ [] ∧ (B = [] ∨ (t2 = .nil ∧ ∃ p x m l k st q y n i j st', st1 = (p, .node x m l k) :: st ∧ st2 = (q, .node y n i j) :: st' ∧ x < y)) := by
  unfold bef at hb
  split at hb
  · rename_i he
    have hA : A ≠ [] := fun e => by rw [h1.emp_iff.2 e] at hb; cases hb
    refine ⟨hA, ?_⟩
    rcases (show emp t1 st1 = true ∨ emp t2 st2 = true by simpa using he) with he | he
    · exact absurd (h1.emp_iff.1 he) hA
    · exact .inl (h2.emp_iff.1 he)
  · rename_i he
    have hA : A ≠ [] := fun e => he (by rw [h1.emp_iff.2 e]; rfl)
    refine ⟨hA, .inr ?_⟩
    split at hb
    · exact ⟨rfl, _, _, _, _, _, _, _, _, _, _, _, _, rfl, rfl, of_decide_eq_true hb⟩
    · cases hb
/-- all at the beginning is less than all of the other -/
theorem bef_less {t1 t2 : Tr} {st1 st2 : Wt} {A B : List Int} (h1 : Prt t1 st1 A) (h2 : Prt t2 st2 B) (hb : bef t1 st1 t2 st2 = true) :
    (∀ x ∈ keys t1, ∀ y ∈ B, x < y) ∧ ∀ p x m l k st, st1 = (p, .node x m l k) :: st → ∀ y ∈ B, x < y := by
  obtain ⟨-, hB | ⟨rfl, p, x, m, l, k, st, q, y, n, i, j, st', rfl, rfl, hxy⟩⟩ := bef_spec h1 h2 hb
  · subst hB
    exact ⟨fun _ _ y hy => by simp at hy, fun _ _ _ _ _ _ _ y hy => by simp at hy⟩
  · obtain ⟨B', hB, -⟩ := h2.next
    have hA := h1.asc
    rw [← h1.ks, rest_cons] at hA
    have hall : ∀ z ∈ B, x < z := fun z hz => by
      have := h2.asc
      rw [hB] at this hz
      rcases List.mem_cons.1 hz with rfl | hz
      · exact hxy
      · have := (List.pairwise_cons.1 this).1 z hz; omega
    refine ⟨fun u hu z hz => ?_, fun p' x' m' l' k' s' e z hz => ?_⟩
    · have h3 := (List.pairwise_append.1 hA).2.2 u hu x (by simp [after])
      have := hall z hz
      omega
    · simp only [List.cons.injEq, Prod.mk.injEq, Tr.node.injEq] at e
      obtain ⟨⟨-, rfl, -⟩, -⟩ := e
      exact hall z hz

section
variable {f : Bool} {K : List Int} {M a : Nat} {D : List Int} {T t1 t2 : Tr} {st1 st2 : Wt} {A B : List Int} {c : Nat}
theorem Prt.nilB (h : Prt t1 st1 []) : t1 = .nil := by
  rcases t1 with _ | ⟨x, m, l, r⟩
  · rfl
  · have := h.ks
    simp [keys] at this
theorem Mst.pre_next {p : Option Addr} {x m : Int} {l k : Tr} {st : Wt} (h : Mst f K M a D T .nil t2 ((p, .node x m l k) :: st) st2 A B c) (hb : bef .nil ((p, .node x m l k) :: st) t2 st2 = true) : mkLt T (prio x) := by
  rcases h.cnd with rfl | ⟨-, -, h3, -, -⟩
  · trivial
  · obtain ⟨A', hA, -⟩ := h.one.next
    exact h3 x A' hA fun z B' hB => (bef_less h.one h.two hb).2 _ _ _ _ _ _ rfl z (by rw [hB]; simp)
theorem Mst.pre_tree (h : Mst f K M a D T t1 t2 st1 st2 A B c) (ht : t1 ≠ .nil) : T = .nil := by
  rcases h.cnd with rfl | ⟨h1, -⟩
  · rfl
  · exact absurd h1 ht
theorem Mst.take {D' : List Int} {T' t1' : Tr} {st1' : Wt} (h : Mst f K M a D T t1 t2 st1 st2 A B c) (hb : bef t1 st1 t2 st2 = true) (hk : Tk D T t1 st1 D' T' t1' st1') :
    ∃ A', Mst f K M a D' T' t1' t2 st1' st2 A' B c ∧ todo t1' st1' < todo t1 st1 := by
  obtain ⟨hA0, hsp⟩ := bef_spec h.one h.two hb
  obtain ⟨hl1, hl2⟩ := bef_less h.one h.two hb
  have hcnt := h.cnt
  have hbd := h.bound
  rcases hk with ⟨rfl, rfl, p, x, m, l, rfl, rfl⟩ | ⟨ht, rfl, rfl, rfl, rfl⟩ | ⟨rfl, rfl, p, x, m, r, rfl, rfl⟩
  · obtain ⟨A', rfl, hP⟩ := h.one.next
    simp only [List.length_cons] at hcnt hbd
    refine ⟨A', ⟨hP, h.two, ?_, fun e => ?_, ?_, .inl rfl⟩, ?_⟩
    · rw [← h.all, List.append_assoc]
      refine congrArg _ (mrg_app (a := [x]) h.one.asc fun u hu z hz => ?_).symm
      obtain rfl : u = x := by simpa using hu
      exact hl2 _ _ _ _ _ _ rfl z hz
    · have := hcnt e
      rw [List.length_append, List.length_singleton]
      omega
    · rw [List.length_append, List.length_singleton]
      omega
    · rw [todo_cons, todo_any t1']
      simp [wgt, keys]
  · obtain ⟨hP, rfl⟩ := h.one.cut
    rw [List.length_append] at hcnt hbd
    refine ⟨_, ⟨hP, h.two, ?_, fun e => ?_, ?_, ?_⟩, ?_⟩
    · rw [← h.all, List.append_assoc]
      exact congrArg _ (mrg_app h.one.asc hl1).symm
    · have := hcnt e
      rw [List.length_append]
      omega
    · rw [List.length_append]
      omega
    · have hnx : ∀ y A', rest st1' = y :: A' → mkLt T' (prio y) ∧ ∀ z ∈ B, y < z := by
        intro y A' e
        rcases st1' with _ | ⟨⟨p, s⟩, st⟩
        · simp [rest] at e
        have h1 := h.one.ne (p, s) (by simp)
        rcases s with _ | ⟨x, m, l, r⟩
        · exact absurd rfl h1
        have h2 := h.one.behind
        rw [rest_cons] at e
        simp only [after, List.cons_append, List.cons.injEq] at e
        obtain ⟨rfl, -⟩ := e
        exact ⟨h2.1, hl2 _ _ _ _ _ _ rfl⟩
      refine .inr ⟨rfl, ?_, fun y A' e _ => (hnx y A' e).1, fun z B' e hz => ?_, fun y z A' B' e e' => ?_⟩
      · rcases hsp with rfl | ⟨h2, -⟩
        · exact h.two.nilB
        · exact h2
      · rcases hsp with rfl | ⟨-, p, x, m, l, k, st, q, y, n, i, j, st', rfl, rfl, hxy⟩
        · cases e
        · have := hz x (keys k ++ rest st) (by rw [rest_cons]; rfl)
          have := hl2 _ _ _ _ _ _ rfl z (by rw [e]; simp)
          omega
      · have := (hnx y A' e).2 z (by rw [e']; simp)
        omega
    · obtain ⟨z, tl, e⟩ := keys_ne ht
      rw [todo_any T', e]
      simp
  · refine ⟨A, ⟨h.one.open, h.two, h.all, hcnt, hbd, .inl rfl⟩, ?_⟩
    rw [todo_cons, todo_any (.node _ _ _ _)]
    simp [wgt, keys]
    omega
theorem Mst.open1 {p : Option Addr} {x m : Int} {l k : Tr} (h : Mst f K M a D T (.node x m l k) t2 st1 st2 A B c) : Mst f K M a D T l t2 ((p, .node x m l k) :: st1) st2 A B c ∧ todo l ((p, .node x m l k) :: st1) < todo (.node x m l k) st1 := by
  obtain rfl := h.pre_tree (by simp)
  refine ⟨⟨h.one.open, h.two, h.all, h.cnt, h.bound, .inl rfl⟩, ?_⟩
  rw [todo_cons, todo_any (.node _ _ _ _)]
  simp [wgt, keys]
  omega
theorem emp_false {t : Tr} {st : Wt} (h : Prt t st A) (ht : t = .nil) (he : emp t st = false) : ∃ p x m l k s, st = (p, .node x m l k) :: s := by
  subst ht
  rcases st with _ | ⟨⟨p, s⟩, st⟩
  · cases he
  · have h1 := h.ne (p, s) (by simp)
    rcases s with _ | ⟨x, m, l, r⟩
    · exact absurd rfl h1
    · exact ⟨_, _, _, _, _, _, rfl⟩
theorem Mst.both (h : Mst f K M a D T .nil .nil st1 st2 A B c) (hb1 : bef .nil st1 .nil st2 = false) (hb2 : bef .nil st2 .nil st1 = false) (he : ¬ (emp .nil st1 = true ∧ emp .nil st2 = true)) :
    T = .nil ∧ ∃ p x m l k s q m' l' k' s' A' B', st1 = (p, .node x m l k) :: s ∧ st2 = (q, .node x m' l' k') :: s' ∧ Mst f K M a (if f then D ++ [x] else D) .nil k k' s s' A' B' (c + 1) ∧ todo k s < todo .nil st1 ∧ todo k' s' < todo .nil st2 := by
  have he1 : emp .nil st1 = false := by
    cases e1 : emp .nil st1
    · rfl
    · cases e2 : emp .nil st2
      · unfold bef at hb2
        rw [if_pos (by simp [e1])] at hb2
        simp [e2] at hb2
      · exact absurd ⟨e1, e2⟩ he
  have he2 : emp .nil st2 = false := by
    cases e2 : emp .nil st2
    · rfl
    · unfold bef at hb1
      rw [if_pos (by simp [e2])] at hb1
      simp [he1] at hb1
  obtain ⟨p, x, m, l, k, s, rfl⟩ := emp_false h.one rfl he1
  obtain ⟨q, y, m', l', k', s', rfl⟩ := emp_false h.two rfl he2
  have hxy : x = y := by
    unfold bef at hb1 hb2
    rw [if_neg (by simp [he1, he2])] at hb1 hb2
    have h1 := of_decide_eq_false hb1
    have h2 := of_decide_eq_false hb2
    omega
  subst hxy
  obtain ⟨A', rfl, hPA⟩ := h.one.next
  obtain ⟨B', rfl, hPB⟩ := h.two.next
  have hcnt := h.cnt
  have hbd := h.bound
  simp only [List.length_cons] at hcnt hbd
  refine ⟨?_, p, x, m, l, k, s, q, m', l', k', s', A', B', rfl, rfl, ⟨hPA, hPB, ?_, fun e => ?_, ?_, .inl rfl⟩, ?_, ?_⟩
  · rcases h.cnd with h | ⟨-, -, -, -, h5⟩
    · exact h
    · exact absurd rfl (h5 x x A' B' rfl rfl)
  · rw [← h.all, mrg_both h.one.asc h.two.asc]
    cases f <;> simp
  · have := hcnt e
    subst e
    simp only [if_true, List.length_append, List.length_singleton]
    omega
  · have : (if f = true then D ++ [x] else D).length ≤ D.length + 1 := by cases f <;> simp
    omega
  · rw [todo_cons, todo_any k]
    simp [wgt, keys]
  · rw [todo_cons, todo_any k']
    simp [wgt, keys]
theorem Mst.done (h : Mst f K M a D T t1 t2 st1 st2 A B c) (h1 : emp t1 st1 = true) (h2 : emp t2 st2 = true) : D = K ∧ (f = true → K.length + c = M) := by
  obtain rfl := h.one.emp_iff.1 h1
  obtain rfl := h.two.emp_iff.1 h2
  have hK := h.all
  rw [mrg_nil, List.append_nil] at hK
  subst hK
  exact ⟨rfl, fun e => by have := h.cnt e; simp at this; omega⟩
theorem Mst.start {s t : Tr} (f : Bool) (hs : Tp s) (ht : Tp t) (a1 : Asc (keys s)) (a2 : Asc (keys t)) : Mst f (mrg f (keys s) (keys t)) ((keys s).length + (keys t).length) ((keys s).length + (keys t).length) [] .nil s t [] [] (keys s) (keys t) 0 :=
  ⟨⟨hs, by simp [rest], a1, by simp⟩, ⟨ht, by simp [rest], a2, by simp⟩, rfl, fun _ => by simp, by simp, .inl rfl⟩
end
end Go.Proofs.Ytlaflhnnddfkkaa.trp
