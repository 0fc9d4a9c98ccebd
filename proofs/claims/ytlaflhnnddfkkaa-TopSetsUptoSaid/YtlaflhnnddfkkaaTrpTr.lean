/- Package treap: plain mathematics: treaps, the one treap of a set; a tree that grows on its right, a tree that is taken apart from its left. -/
import Derived.Test.YtlaflhnnddfkkaaSchEach
import Derived.Test.YtlaflhnnddfkkaaTrpPrio
namespace Go.Proofs.Ytlaflhnnddfkkaa.trp
open Go Go.RowKit
open Go.Proofs.Ytlaflhnnddfkkaa.sch
set_option linter.unusedVariables false

/-- the mark on top is less -/
def mkLt : Tr → Int → Prop
  | .nil, _ => True
  | .node _ m _ _, k => m < k
/-- the mark on top is no more -/
def mkLe : Tr → Int → Prop
  | .nil, _ => True
  | .node _ m _ _, k => m ≤ k
/-- a treap: whoever has more stands above, of those who have as much the lesser number -/
def Tp : Tr → Prop
  | .nil => True
  | .node x m l r => m = prio x ∧ mkLt l m ∧ mkLe r m ∧ Tp l ∧ Tp r

theorem mkLt.le {t : Tr} {k : Int} (h : mkLt t k) : mkLe t k := by
  cases t with
  | nil => trivial
  | node x m l r => exact Int.le_of_lt h
theorem mkLe.mono {t : Tr} {k k' : Int} (h : mkLe t k) (hk : k ≤ k') : mkLe t k' := by
  cases t with
  | nil => trivial
  | node x m l r => exact Int.le_trans h hk
theorem mkLe.lt {t : Tr} {k k' : Int} (h : mkLe t k) (hk : k < k') : mkLt t k' := by
  cases t with
  | nil => trivial
  | node x m l r => exact Int.lt_of_le_of_lt h hk

theorem below_le : ∀ {t : Tr} {k : Int}, Tp t → mkLe t k → ∀ y ∈ keys t, prio y ≤ k
  | .nil, _, _, _, y, hy => by simp [keys] at hy
  | .node x m l r, k, h, hk, y, hy => by
    obtain ⟨rfl, h1, h2, h3, h4⟩ := h
    have hk' : prio x ≤ k := hk
    simp only [keys, List.mem_append, List.mem_cons] at hy
    rcases hy with hy | rfl | hy
    · exact Int.le_trans (below_le h3 h1.le y hy) hk'
    · exact hk'
    · exact Int.le_trans (below_le h4 h2 y hy) hk'
theorem below_lt {t : Tr} {k : Int} (h : Tp t) (hk : mkLt t k) : ∀ y ∈ keys t, prio y < k := by
  cases t with
  | nil => intro y hy; simp [keys] at hy
  | node x m l r =>
    intro y hy
    have := below_le (k := m) h (Int.le_refl m) y hy
    have hk' : m < k := hk
    omega

theorem split_one {x : Int} : ∀ {a b c d : List Int}, Asc (a ++ x :: b) → a ++ x :: b = c ++ x :: d → a = c ∧ b = d
  | [], b, [], d, _, e => by simpa using e
  | [], b, z :: c, d, h, e => by
    simp only [List.nil_append, List.cons_append, List.cons.injEq] at e
    obtain ⟨rfl, e⟩ := e
    have := (List.pairwise_cons.1 h).1 x (by rw [e]; simp)
    omega
  | y :: a, b, [], d, h, e => by
    simp only [List.nil_append, List.cons_append, List.cons.injEq] at e
    obtain ⟨rfl, e⟩ := e
    have := (List.pairwise_cons.1 h).1 y (by simp)
    omega
  | y :: a, b, z :: c, d, h, e => by
    simp only [List.cons_append, List.cons.injEq] at e
    obtain ⟨rfl, e⟩ := e
    obtain ⟨rfl, rfl⟩ := split_one (List.pairwise_cons.1 h).2 e
    exact ⟨rfl, rfl⟩

/-- ONE SET, ONE TREE -/
theorem Tp.one : ∀ {s t : Tr}, Tp s → Tp t → Asc (keys s) → keys s = keys t → s = t
  | .nil, .nil, _, _, _, _ => rfl
  | .nil, .node x m l r, _, _, _, e => by simp [keys] at e
  | .node x m l r, .nil, _, _, _, e => by simp [keys] at e
  | .node x m l r, .node y k a b, hs, ht, ha, e => by
    obtain ⟨rfl, s1, s2, s3, s4⟩ := hs
    obtain ⟨rfl, t1, t2, t3, t4⟩ := ht
    simp only [keys] at ha e
    obtain ⟨q1, q2, q3, q4⟩ := asc_node.1 ha
    have ha2 := ha
    rw [e] at ha2
    obtain ⟨p1, p2, p3, p4⟩ := asc_node.1 ha2
    have hx : x ∈ keys a ++ y :: keys b := by rw [← e]; simp
    have hy : y ∈ keys l ++ x :: keys r := by rw [e]; simp
    have hxy : x = y := by
      simp only [List.mem_append, List.mem_cons] at hx hy
      rcases hx with hx | rfl | hx
      · have h1 := below_lt t3 t1 x hx
        have h2 := p3 x hx
        rcases hy with hy | rfl | hy
        · have := q3 y hy; omega
        · rfl
        · have := below_le s4 s2 y hy; omega
      · rfl
      · have h1 := below_le t4 t2 x hx
        have h2 := p4 x hx
        rcases hy with hy | rfl | hy
        · have := below_lt s3 s1 y hy; omega
        · rfl
        · have := q4 y hy; omega
    subst hxy
    obtain ⟨e1, e2⟩ := split_one ha e
    rw [Tp.one s3 t3 q1 e1, Tp.one s4 t4 q2 e2]

/-! ### a tree that grows -/
/-- what waits above: a pointer to what is left, the number, what is left; the last one first -/
abbrev Pth := List (Option Addr × Int × Tr)
/-- the tree of all -/
def whole : Pth → Tr → Tr
  | [], T => T
  | q :: st, T => whole st (.node q.2.1 (prio q.2.1) q.2.2 T)
theorem whole_keys : ∀ (st : Pth) (T : Tr), keys (whole st T) = keys (whole st .nil) ++ keys T
  | [], T => by simp [whole, keys]
  | q :: st, T => by
    show keys (whole st (.node _ _ _ T)) = keys (whole st (.node _ _ _ .nil)) ++ _
    rw [whole_keys st (.node _ _ _ T), whole_keys st (.node _ _ _ .nil)]
    simp [keys]
theorem whole_tp : ∀ {st : Pth} {T : Tr}, Tp (whole st T) → Tp T ∧ ∀ q ∈ st.head?, mkLe T (prio q.2.1)
  | [], T, h => ⟨h, by simp⟩
  | q :: st, T, h => by
    obtain ⟨⟨_, h1, h2, h3, h4⟩, -⟩ := whole_tp (st := st) h
    exact ⟨h4, by simpa using h2⟩
theorem whole_put : ∀ {st : Pth} {T T' : Tr}, Tp (whole st T) → Tp T' → (∀ q ∈ st.head?, mkLe T' (prio q.2.1)) → Tp (whole st T')
  | [], T, T', _, h, _ => h
  | q :: st, T, T', h, h1, h2 => by
    have h0 : Tp (whole st (.node q.2.1 (prio q.2.1) q.2.2 T)) := h
    obtain ⟨⟨a0, a1, a2, a3, a4⟩, h3⟩ := whole_tp h0
    exact whole_put (st := st) (T := .node q.2.1 (prio q.2.1) q.2.2 T) h ⟨rfl, a1, h2 q (by simp), a3, h1⟩ h3
theorem whole_len : ∀ (st : Pth) (T : Tr), st.length + (keys T).length ≤ (keys (whole st T)).length
  | [], T => by simp [whole]
  | q :: st, T => by
    have := whole_len st (.node q.2.1 (prio q.2.1) q.2.2 T)
    simp only [keys, List.length_append, List.length_cons] at this
    show _ ≤ (keys (whole st _)).length
    simp only [List.length_cons]
    omega

/-! ### a tree that is taken apart -/
/-- what is left of a tree: t, and those that wait -/
def rem : Tr → Wt → Tr
  | t, [] => t
  | t, (_, .nil) :: st => rem t st
  | t, (_, .node x m _ r) :: st => rem (.node x m t r) st
theorem rem_tp : ∀ {t : Tr} {st : Wt}, Tp (rem t st) → Tp t
  | t, [], h => h
  | t, (_, .nil) :: st, h => rem_tp (st := st) h
  | t, (_, .node x m _ r) :: st, h => (rem_tp (st := st) (t := .node x m t r) h).2.2.2.1
/-- a lower one may come in a tree's place -/
theorem rem_put : ∀ {t t' : Tr} {st : Wt}, Tp (rem t st) → Tp t' → (∀ k, mkLt t k → mkLt t' k) → Tp (rem t' st)
  | t, t', [], _, h, _ => h
  | t, t', (_, .nil) :: st, h, h1, h2 => rem_put (st := st) h h1 h2
  | t, t', (_, .node x m _ r) :: st, h, h1, h2 => by
    have h0 : Tp (rem (.node x m t r) st) := h
    obtain ⟨a0, a1, a2, a3, a4⟩ := rem_tp h0
    exact rem_put (st := st) (t := .node x m t r) (t' := .node x m t' r) h ⟨a0, h2 _ a1, a2, h1, a4⟩ fun k hk => hk
theorem rem_keys : ∀ (t : Tr) {st : Wt}, (∀ q ∈ st, q.2 ≠ .nil) → keys (rem t st) = keys t ++ rest st
  | t, [], _ => by simp [rem, rest]
  | t, (p, .nil) :: st, h => absurd rfl (h (p, .nil) (by simp))
  | t, (p, .node x m l r) :: st, h => by
    show keys (rem (.node x m t r) st) = _
    rw [rem_keys _ (st := st) fun q hq => h q (by simp [hq]), rest_cons]
    simp [keys, after]
/-- how much there is to do -/
def wgt : Tr → Nat
  | .nil => 0
  | .node _ _ _ r => 1 + 2 * (keys r).length
def todo : Tr → Wt → Nat
  | t, st => 2 * (keys t).length + (st.map fun q => wgt q.2).sum
theorem todo_nil (t : Tr) : todo t [] = 2 * (keys t).length := by simp [todo]
theorem todo_cons (t : Tr) (q : Option Addr × Tr) (st : Wt) : todo t (q :: st) = 2 * (keys t).length + wgt q.2 + todo .nil st := by
  simp [todo, keys]
  omega
theorem todo_any (t : Tr) (st : Wt) : todo t st = 2 * (keys t).length + todo .nil st := by simp [todo, keys]

/-! ### two sets -/
/-- the numbers of both, with those that both have or without them -/
def mrg (f : Bool) (A B : List Int) : List Int := uniq ((A ++ B).filter fun z => f || !(decide (z ∈ A) && decide (z ∈ B)))
theorem mem_mrg {f : Bool} {A B : List Int} {z : Int} : z ∈ mrg f A B ↔ (z ∈ A ∨ z ∈ B) ∧ (f = true ∨ ¬ (z ∈ A ∧ z ∈ B)) := by
  unfold mrg
  rw [mem_uniq, List.mem_filter, List.mem_append]
  by_cases h1 : z ∈ A <;> by_cases h2 : z ∈ B <;> cases f <;> simp [h1, h2]
theorem mrg_asc (f : Bool) (A B : List Int) : Asc (mrg f A B) := uniq_asc _
theorem mrg_of {f : Bool} {A B s : List Int} (hs : Asc s) (h : ∀ z, z ∈ s ↔ (z ∈ A ∨ z ∈ B) ∧ (f = true ∨ ¬ (z ∈ A ∧ z ∈ B))) : s = mrg f A B :=
  hs.one (mrg_asc f A B) fun z => by rw [h, mem_mrg]
theorem mrg_comm (f : Bool) (A B : List Int) : mrg f A B = mrg f B A :=
  mrg_of (mrg_asc _ _ _) fun z => by rw [mem_mrg, Or.comm (a := z ∈ A), And.comm (a := z ∈ A)]
theorem mrg_nil (f : Bool) : mrg f [] [] = [] := by simp [mrg, uniq]
theorem asc_app {a b : List Int} (ha : Asc a) (hb : Asc b) (h : ∀ x ∈ a, ∀ y ∈ b, x < y) : Asc (a ++ b) := List.pairwise_append.2 ⟨ha, hb, h⟩
/-- what is less than all others goes ahead -/
theorem mrg_app {f : Bool} {a A B : List Int} (ha : Asc (a ++ A)) (hB : ∀ x ∈ a, ∀ y ∈ B, x < y) : mrg f (a ++ A) B = a ++ mrg f A B := by
  obtain ⟨h1, h2, h3⟩ := List.pairwise_append.1 ha
  refine (mrg_of (asc_app h1 (mrg_asc _ _ _) fun x hx y hy => ?_) fun z => ?_).symm
  · rcases (mem_mrg.1 hy).1 with h | h
    · exact h3 x hx y h
    · exact hB x hx y h
  · rw [List.mem_append, mem_mrg, List.mem_append]
    by_cases hz : z ∈ a
    · have hzB : z ∉ B := fun h => by have := hB z hz z h; omega
      simp [hz, hzB]
    · simp [hz]
/-- what both have -/
theorem mrg_both {f : Bool} {x : Int} {A B : List Int} (hA : Asc (x :: A)) (hB : Asc (x :: B)) : mrg f (x :: A) (x :: B) = (if f then [x] else []) ++ mrg f A B := by
  obtain ⟨h1, h2⟩ := List.pairwise_cons.1 hA
  obtain ⟨h3, h4⟩ := List.pairwise_cons.1 hB
  have hxA : x ∉ A := fun h => by have := h1 x h; omega
  have hxB : x ∉ B := fun h => by have := h3 x h; omega
  refine (mrg_of (asc_app (by cases f <;> simp [Asc]) (mrg_asc _ _ _) fun y hy z hz => ?_) fun z => ?_).symm
  · obtain rfl : y = x := by cases f <;> simp at hy; exact hy
    rcases (mem_mrg.1 hz).1 with h | h
    · exact h1 z h
    · exact h3 z h
  · rw [List.mem_append, mem_mrg, List.mem_cons, List.mem_cons]
    by_cases hz : z = x
    · subst hz
      cases f <;> simp [hxA, hxB]
    · cases f <;> simp [hz]
theorem mrg_ins {l : List Int} {x : Int} (h : Asc l) : mrg true l [x] = ins x l :=
  (mrg_of (ins_asc x h) fun z => by rw [mem_ins]; simp; exact Or.comm).symm
theorem mrg_del {l : List Int} {x : Int} (h : Asc l) (hx : x ∈ l) : mrg false l [x] = del x l :=
  (mrg_of (del_asc x h) fun z => by
    rw [mem_del]
    by_cases hz : z = x
    · subst hz; simp [hx]
    · simp [hz]).symm
end Go.Proofs.Ytlaflhnnddfkkaa.trp
