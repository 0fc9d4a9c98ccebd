/- Package splay: the way down to a number, and what is left of it on the way up; plain mathematics. -/
import Derived.Test.YtlaflhnnddfkkaaSchEach
namespace Go.Proofs.Ytlaflhnnddfkkaa.spl
open Go Go.RowKit
open Go.Proofs.Ytlaflhnnddfkkaa.sch

/-- the number on top -/
def tk : Tr → Int
  | .nil => 0
  | .node y _ _ _ => y

/-- what waits above a tree of the numbers mid, all of it, if the way goes to k -/
def zip (k : Int) : Wt → List Int → List Int
  | [], mid => mid
  | (_, .nil) :: st, mid => zip k st mid
  | (_, .node y _ l r) :: st, mid => if k < y then zip k st (mid ++ y :: keys r) else zip k st (keys l ++ y :: mid)

theorem zip_left {k y m : Int} {l r : Tr} {p : Option Addr} {st : Wt} {mid : List Int} (h : k < y) : zip k ((p, .node y m l r) :: st) mid = zip k st (mid ++ y :: keys r) := by
  show (if k < y then _ else _) = _
  rw [if_pos h]
theorem zip_right {k y m : Int} {l r : Tr} {p : Option Addr} {st : Wt} {mid : List Int} (h : ¬ k < y) : zip k ((p, .node y m l r) :: st) mid = zip k st (keys l ++ y :: mid) := by
  show (if k < y then _ else _) = _
  rw [if_neg h]

/-- each one that waits is another number than k, and those below it are on k's side of it -/
def Sides (k : Int) (st : Wt) : Prop := st.Pairwise (fun a b => tk b.2 ≠ tk a.2 ∧ (tk a.2 < tk b.2 ↔ k < tk b.2)) ∧ ∀ a ∈ st, tk a.2 ≠ k

theorem Sides.nil (k : Int) : Sides k [] := ⟨List.Pairwise.nil, by simp⟩
theorem Sides.tail {k : Int} {a : Option Addr × Tr} {st : Wt} (h : Sides k (a :: st)) : Sides k st := ⟨(List.pairwise_cons.1 h.1).2, fun b hb => h.2 b (by simp [hb])⟩
theorem Sides.top {k : Int} {a : Option Addr × Tr} {st : Wt} (h : Sides k (a :: st)) : tk a.2 ≠ k := h.2 a (by simp)
theorem Sides.two {k : Int} {a b : Option Addr × Tr} {st : Wt} (h : Sides k (a :: b :: st)) : tk b.2 ≠ tk a.2 ∧ (tk a.2 < tk b.2 ↔ k < tk b.2) ∧ tk a.2 ≠ k ∧ tk b.2 ≠ k :=
  ⟨((List.pairwise_cons.1 h.1).1 b (by simp)).1, ((List.pairwise_cons.1 h.1).1 b (by simp)).2, h.2 a (by simp), h.2 b (by simp)⟩

/-- another number on the same side of all -/
theorem Sides.other {x k : Int} {st : Wt} (h : Sides x st) (hk : ∀ a ∈ st, k ≠ tk a.2 ∧ (k < tk a.2 ↔ x < tk a.2)) : Sides k st := by
  obtain ⟨h1, h2⟩ := h
  refine ⟨?_, fun a ha e => (hk a ha).1 e.symm⟩
  refine List.Pairwise.imp_of_mem (fun {a b} _ hb hab => ?_) h1
  exact ⟨hab.1, hab.2.trans (hk b hb).2.symm⟩
theorem zip_other {x k : Int} : ∀ {st : Wt} (mid : List Int), (∀ a ∈ st, k ≠ tk a.2 ∧ (k < tk a.2 ↔ x < tk a.2)) → zip x st mid = zip k st mid
  | [], _, _ => rfl
  | (_, .nil) :: st, mid, h => zip_other (st := st) mid fun a ha => h a (by simp [ha])
  | (p, .node y m l r) :: st, mid, h => by
    have h1 := (h (p, .node y m l r) (by simp)).2
    have h2 : ∀ a ∈ st, k ≠ tk a.2 ∧ (k < tk a.2 ↔ x < tk a.2) := fun a ha => h a (by simp [ha])
    change k < y ↔ x < y at h1
    by_cases e : x < y
    · rw [zip_left e, zip_left (h1.2 e), zip_other _ h2]
    · rw [zip_right e, zip_right (fun h => e (h1.1 h)), zip_other _ h2]
theorem zip_len {k : Int} : ∀ {st : Wt} (mid : List Int), (∀ a ∈ st, a.2 ≠ .nil) → mid.length + st.length ≤ (zip k st mid).length
  | [], mid, _ => by simp [zip]
  | (_, .nil) :: st, mid, h => absurd rfl (h _ (List.mem_cons_self ..))
  | (p, .node y m l r) :: st, mid, h => by
    have h2 : ∀ a ∈ st, a.2 ≠ .nil := fun a ha => h a (by simp [ha])
    by_cases e : k < y
    · rw [zip_left e]
      have := zip_len (k := k) (st := st) (mid ++ y :: keys r) h2
      simp only [List.length_append, List.length_cons] at this ⊢
      omega
    · rw [zip_right e]
      have := zip_len (k := k) (st := st) (keys l ++ y :: mid) h2
      simp only [List.length_append, List.length_cons] at this ⊢
      omega

/-! ### the way down -/
/-- the way to x has come to t; st waits -/
structure Down (x : Int) (K : List Int) (st : Wt) (t : Tr) : Prop where
  all : zip x st (keys t) = K
  sides : Sides x st
  here : ∀ a ∈ st, ∀ y ∈ keys t, y ≠ tk a.2 ∧ (y < tk a.2 ↔ x < tk a.2)
  mid : ∃ A B, K = A ++ keys t ++ B ∧ (∀ a ∈ A, a < x) ∧ (∀ b ∈ B, x < b)
  asc : Asc (keys t)

theorem Down.start {x : Int} {t : Tr} (h : Asc (keys t)) : Down x (keys t) [] t :=
  ⟨rfl, Sides.nil _, by simp, ⟨[], [], by simp, by simp, by simp⟩, h⟩
theorem Down.left {x y m : Int} {l r : Tr} {K : List Int} {st : Wt} {p : Option Addr} (h : Down x K st (.node y m l r)) (hx : x < y) : Down x K ((p, .node y m l r) :: st) l := by
  obtain ⟨h1, ⟨h2, h3⟩, h4, ⟨A, B, h5, h6, h7⟩, h8⟩ := h
  obtain ⟨a1, a2, a3, a4⟩ := asc_node.1 h8
  refine ⟨?_, ⟨List.pairwise_cons.2 ⟨fun b hb => ?_, h2⟩, fun a ha => ?_⟩, fun a ha z hz => ?_, ⟨A, y :: keys r ++ B, ?_, h6, fun b hb => ?_⟩, a1⟩
  · rw [zip_left hx]; exact h1
  · obtain ⟨g1, g2⟩ := h4 b hb y (by simp [keys])
    exact ⟨fun e => g1 e.symm, g2⟩
  · rcases List.mem_cons.1 ha with rfl | ha
    · show y ≠ x
      omega
    · exact h3 a ha
  · rcases List.mem_cons.1 ha with rfl | ha
    · have := a3 z hz
      show z ≠ y ∧ (z < y ↔ x < y)
      exact ⟨by omega, by omega⟩
    · exact h4 a ha z (by simp [keys, hz])
  · rw [h5]; simp [keys]
  · rcases List.mem_append.1 hb with hb | hb
    · rcases List.mem_cons.1 hb with rfl | hb
      · exact hx
      · have := a4 b hb; omega
    · exact h7 b hb
theorem Down.right {x y m : Int} {l r : Tr} {K : List Int} {st : Wt} {p : Option Addr} (h : Down x K st (.node y m l r)) (hx : y < x) : Down x K ((p, .node y m l r) :: st) r := by
  obtain ⟨h1, ⟨h2, h3⟩, h4, ⟨A, B, h5, h6, h7⟩, h8⟩ := h
  obtain ⟨a1, a2, a3, a4⟩ := asc_node.1 h8
  refine ⟨?_, ⟨List.pairwise_cons.2 ⟨fun b hb => ?_, h2⟩, fun a ha => ?_⟩, fun a ha z hz => ?_, ⟨A ++ keys l ++ [y], B, ?_, fun b hb => ?_, h7⟩, a2⟩
  · rw [zip_right (by omega)]; exact h1
  · obtain ⟨g1, g2⟩ := h4 b hb y (by simp [keys])
    exact ⟨fun e => g1 e.symm, g2⟩
  · rcases List.mem_cons.1 ha with rfl | ha
    · show y ≠ x
      omega
    · exact h3 a ha
  · rcases List.mem_cons.1 ha with rfl | ha
    · have := a4 z hz
      show z ≠ y ∧ (z < y ↔ x < y)
      exact ⟨by omega, by omega⟩
    · exact h4 a ha z (by simp [keys, hz])
  · rw [h5]; simp [keys]
  · simp only [List.mem_append, List.mem_singleton] at hb
    rcases hb with (hb | hb) | rfl
    · exact h6 b hb
    · have := a3 b hb; omega
    · exact hx
theorem Down.len {x : Int} {K : List Int} {st : Wt} {t : Tr} (h : Down x K st t) (hst : ∀ a ∈ st, a.2 ≠ .nil) : (keys t).length + st.length ≤ K.length := by
  rw [← h.all]
  exact zip_len _ hst

/-- k is x, or next to it -/
def Next (x : Int) (K : List Int) (k : Int) : Prop := k = x ∨ (x < k ∧ ∀ y ∈ K, y < k → y < x) ∨ (k < x ∧ ∀ y ∈ K, k < y → x < y)
theorem Down.stop {x y m : Int} {l r : Tr} {K : List Int} {st : Wt} (h : Down x K st (.node y m l r)) (hK : Asc K) (hl : x < y → l = .nil) (hr : y < x → r = .nil) : Next x K y := by
  obtain ⟨h1, ⟨h2, h3⟩, h4, ⟨A, B, h5, h6, h7⟩, h8⟩ := h
  obtain ⟨a1, a2, a3, a4⟩ := asc_node.1 h8
  have h9 : ∀ b ∈ B, y < b := fun b hb => by
    rw [h5] at hK
    exact (List.pairwise_append.1 hK).2.2 y (by simp [keys]) b hb
  have h10 : ∀ a ∈ A, a < y := fun a ha => by
    rw [h5, List.append_assoc] at hK
    exact (List.pairwise_append.1 hK).2.2 a ha y (by simp [keys])
  rcases Int.lt_trichotomy x y with e | e | e
  · refine .inr (.inl ⟨e, fun z hz hzy => ?_⟩)
    rw [h5, hl e] at hz
    simp only [keys, List.nil_append, List.mem_append, List.mem_cons] at hz
    rcases hz with (hz | hz | hz) | hz
    · exact h6 z hz
    · omega
    · have := a4 z hz; omega
    · have := h9 z hz; omega
  · exact .inl e.symm
  · refine .inr (.inr ⟨e, fun z hz hzy => ?_⟩)
    rw [h5, hr e] at hz
    simp only [keys, List.mem_append, List.mem_cons, List.not_mem_nil, or_false] at hz
    rcases hz with (hz | hz | hz) | hz
    · have := h10 z hz; omega
    · have := a3 z hz; omega
    · omega
    · exact h7 z hz

/-! ### the way up -/
/-- all numbers, those of k's tree among them -/
structure Upw (k : Int) (K : List Int) (st : Wt) (l r : Tr) : Prop where
  all : zip k st (keys l ++ k :: keys r) = K
  sides : Sides k st

theorem Down.turn {x k m : Int} {l r : Tr} {K : List Int} {st : Wt} (h : Down x K st (.node k m l r)) : Upw k K st l r := by
  have h4 : ∀ a ∈ st, k ≠ tk a.2 ∧ (k < tk a.2 ↔ x < tk a.2) := fun a ha => h.here a ha k (by simp [keys])
  exact ⟨by rw [← h.all, zip_other _ h4]; rfl, h.sides.other h4⟩

section
variable {k p g mp mg mk : Int} {K : List Int} {st : Wt} {l r pl pr gl gr : Tr} {ap ag : Option Addr}
theorem Upw.ll (h : Upw k K ((ap, .node p mp pl pr) :: (ag, .node g mg gl gr) :: st) l r) (h1 : k < p) (h2 : p < g) (m m' : Int) : Upw k K st l (.node p m r (.node g m' pr gr)) := by
  refine ⟨?_, h.sides.tail.tail⟩
  rw [← h.all, zip_left h1, zip_left (by omega)]
  simp [keys]
theorem Upw.rr (h : Upw k K ((ap, .node p mp pl pr) :: (ag, .node g mg gl gr) :: st) l r) (h1 : g < p) (h2 : p < k) (m m' : Int) : Upw k K st (.node p m (.node g m' gl pl) l) r := by
  refine ⟨?_, h.sides.tail.tail⟩
  rw [← h.all, zip_right (by omega), zip_right (by omega)]
  simp [keys]
theorem Upw.lr (h : Upw k K ((ap, .node p mp pl pr) :: (ag, .node g mg gl gr) :: st) l r) (h1 : k < p) (h2 : ¬ p < g) (m m' : Int) : Upw k K st (.node g m gl l) (.node p m' r pr) := by
  obtain ⟨s1, s2, s3, s4⟩ := h.sides.two
  change g ≠ p at s1
  change p < g ↔ k < g at s2
  change g ≠ k at s4
  refine ⟨?_, h.sides.tail.tail⟩
  rw [← h.all, zip_left h1, zip_right (by omega)]
  simp [keys]
theorem Upw.rl (h : Upw k K ((ap, .node p mp pl pr) :: (ag, .node g mg gl gr) :: st) l r) (h1 : ¬ k < p) (h2 : ¬ (g < p ∧ p < k)) (m m' : Int) : Upw k K st (.node p m pl l) (.node g m' r gr) := by
  obtain ⟨s1, s2, s3, s4⟩ := h.sides.two
  change g ≠ p at s1
  change p < g ↔ k < g at s2
  change p ≠ k at s3
  change g ≠ k at s4
  refine ⟨?_, h.sides.tail.tail⟩
  rw [← h.all, zip_right h1, zip_left (by omega)]
  simp [keys]
theorem Upw.oneL (h : Upw k K ((ap, .node p mp pl pr) :: st) l r) (h1 : k < p) (m : Int) : Upw k K st l (.node p m r pr) := by
  refine ⟨?_, h.sides.tail⟩
  rw [← h.all, zip_left h1]
  simp [keys]
theorem Upw.oneR (h : Upw k K ((ap, .node p mp pl pr) :: st) l r) (h1 : ¬ k < p) (m : Int) : Upw k K st (.node p m pl l) r := by
  refine ⟨?_, h.sides.tail⟩
  rw [← h.all, zip_right h1]
  simp [keys]
end

/-- a tree of these numbers with k on top -/
def Top (K : List Int) (k : Int) (t : Tr) : Prop := keys t = K ∧ tk t = k ∧ t ≠ .nil
theorem Upw.done {k m : Int} {K : List Int} {l r : Tr} (h : Upw k K [] l r) : Top K k (.node k m l r) := ⟨h.all, rfl, by simp⟩

/-- what splayed leaves: nothing of nothing; else x on top, or one next to it -/
def Near (x : Int) (K : List Int) (t : Tr) : Prop := keys t = K ∧ (t = .nil ∨ Next x K (tk t))
theorem Top.near {x k : Int} {K : List Int} {t : Tr} (h : Top K k t) (hn : Next x K k) : Near x K t := ⟨h.1, .inr (by rw [h.2.1]; exact hn)⟩
/-- x is there if it is on top -/
theorem Near.has {x y m : Int} {l r : Tr} {K : List Int} (h : Near x K (.node y m l r)) : y = x ↔ x ∈ K := by
  obtain ⟨h1, h2⟩ := h
  rcases h2 with h2 | h2 | ⟨h2, h3⟩ | ⟨h2, h3⟩
  · cases h2
  · change y = x at h2
    subst h2
    exact ⟨fun _ => by rw [← h1]; simp [keys], fun _ => rfl⟩
  · change x < y at h2
    refine ⟨fun e => by omega, fun e => ?_⟩
    have := h3 x e h2
    omega
  · change y < x at h2
    refine ⟨fun e => by omega, fun e => ?_⟩
    have := h3 x e h2
    omega
theorem Near.empty {x : Int} {K : List Int} (h : Near x K .nil) : K = [] := h.1.symm
theorem Near.ins_left {x y m : Int} {l r : Tr} {K : List Int} (h : Near x K (.node y m l r)) (ha : Asc K) (hx : x < y) : keys l ++ x :: y :: keys r = ins x K := by
  obtain ⟨h1, h2⟩ := h
  have h3 : ∀ z ∈ keys l, z < x := by
    rcases h2 with h2 | h2 | ⟨h2, h3⟩ | ⟨h2, h3⟩
    · cases h2
    · change y = x at h2; omega
    · intro z hz
      rw [← h1] at ha
      exact h3 z (by rw [← h1]; simp [keys, hz]) ((asc_node.1 ha).2.2.1 z hz)
    · change y < x at h2; omega
  rw [← h1] at ha ⊢
  obtain ⟨a1, a2, a3, a4⟩ := asc_node.1 ha
  refine ins_of ha (asc_node.2 ⟨a1, List.pairwise_cons.2 ⟨a4, a2⟩, h3, fun z hz => ?_⟩) fun z => ?_
  · rcases List.mem_cons.1 hz with rfl | hz
    · exact hx
    · have := a4 z hz; omega
  · simp only [keys, List.mem_append, List.mem_cons]
    constructor
    · rintro (h | h | h | h) <;> simp [h]
    · rintro (h | h | h | h) <;> simp [h]
theorem Near.ins_right {x y m : Int} {l r : Tr} {K : List Int} (h : Near x K (.node y m l r)) (ha : Asc K) (hx : y < x) : keys l ++ y :: x :: keys r = ins x K := by
  obtain ⟨h1, h2⟩ := h
  have h3 : ∀ z ∈ keys r, x < z := by
    rcases h2 with h2 | h2 | ⟨h2, h3⟩ | ⟨h2, h3⟩
    · cases h2
    · change y = x at h2; omega
    · change x < y at h2; omega
    · intro z hz
      rw [← h1] at ha
      exact h3 z (by rw [← h1]; simp [keys, hz]) ((asc_node.1 ha).2.2.2 z hz)
  rw [← h1] at ha ⊢
  obtain ⟨a1, a2, a3, a4⟩ := asc_node.1 ha
  refine ins_of ha (asc_node.2 ⟨a1, List.pairwise_cons.2 ⟨h3, a2⟩, a3, fun z hz => ?_⟩) fun z => ?_
  · rcases List.mem_cons.1 hz with rfl | hz
    · exact hx
    · have := h3 z hz; omega
  · simp only [keys, List.mem_append, List.mem_cons]
    constructor
    · rintro (h | h | h | h) <;> simp [h]
    · rintro (h | h | h | h) <;> simp [h]
/-- two trees, the least number of the right one on top -/
theorem Near.head {z y m : Int} {l r : Tr} {K : List Int} (h : Near z (z :: K) (.node y m l r)) (ha : Asc (z :: K)) : y = z ∧ l = .nil ∧ keys r = K := by
  have hy : y = z := h.has.2 (by simp)
  subst hy
  have h1 := h.1
  rw [← h1] at ha
  obtain ⟨a1, a2, a3, a4⟩ := asc_node.1 ha
  rcases l with _ | ⟨z', m', l', r'⟩
  · refine ⟨rfl, rfl, ?_⟩
    simpa [keys] using h1
  · exfalso
    obtain ⟨z2, tl, e⟩ := keys_ne (t := Tr.node z' m' l' r') (by simp)
    have h2 := a3 z2 (by rw [e]; simp)
    simp only [keys] at h1
    rw [show keys l' ++ z' :: keys r' = z2 :: tl from e] at h1
    simp at h1
    omega
end Go.Proofs.Ytlaflhnnddfkkaa.spl
