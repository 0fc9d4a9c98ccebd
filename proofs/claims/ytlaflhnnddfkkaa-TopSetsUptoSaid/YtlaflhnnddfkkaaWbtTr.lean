/- Package wbt: its trees, how heavy they are; plain mathematics. -/
import Derived.Test.YtlaflhnnddfkkaaSch
namespace Go.Proofs.Ytlaflhnnddfkkaa.wbt
open Go Go.RowKit
open Go.Proofs.Ytlaflhnnddfkkaa.sch

/-- how many numbers; how heavy: one more -/
def siz (t : Tr) : Nat := (keys t).length
def wt (t : Tr) : Nat := siz t + 1
theorem siz_node (x m : Int) (l r : Tr) : siz (.node x m l r) = siz l + 1 + siz r := by
  simp only [siz, keys, List.length_append, List.length_cons]; omega
theorem wt_node (x m : Int) (l r : Tr) : wt (.node x m l r) = wt l + wt r := by
  simp only [wt, siz_node]; omega
theorem wt_pos (t : Tr) : 1 ≤ wt t := by unfold wt; omega
theorem wt_nil : wt .nil = 1 := rfl
theorem some_of_wt {t : Tr} (h : 1 < wt t) : t ≠ .nil := by rintro rfl; simp [wt_nil] at h

/-- each mark is the size; neither side is more than three times as heavy as the other one -/
def Wb : Tr → Prop
  | .nil => True
  | .node _ m l r => m = ((siz l + 1 + siz r : Nat) : Int) ∧ wt l ≤ 3 * wt r ∧ wt r ≤ 3 * wt l ∧ Wb l ∧ Wb r
def mkn (x : Int) (a b : Tr) : Tr := .node x ((siz a + 1 + siz b : Nat) : Int) a b
theorem wt_mkn (x : Int) (a b : Tr) : wt (mkn x a b) = wt a + wt b := wt_node _ _ _ _
theorem siz_mkn (x : Int) (a b : Tr) : siz (mkn x a b) = siz a + 1 + siz b := siz_node _ _ _ _
theorem keys_mkn (x : Int) (a b : Tr) : keys (mkn x a b) = keys a ++ x :: keys b := rfl
theorem mkn_wb {x : Int} {a b : Tr} (ha : Wb a) (hb : Wb b) (h1 : wt a ≤ 3 * wt b) (h2 : wt b ≤ 3 * wt a) : Wb (mkn x a b) := ⟨rfl, h1, h2, ha, hb⟩

/-- a tree of these numbers -/
def Good (K : List Int) (t : Tr) : Prop := Wb t ∧ keys t = K
theorem Good.wt {K : List Int} {t : Tr} (h : Good K t) : wt t = K.length + 1 := by rw [wbt.wt, siz, h.2]
theorem Good.siz {K : List Int} {t : Tr} (h : Good K t) : siz t = K.length := by rw [wbt.siz, h.2]
theorem Good.nil : Good [] .nil := ⟨trivial, rfl⟩

/-- not so much heavier that one turn is not enough -/
def Near (a b : Nat) : Prop := 2 * b ≤ 9 * a ∨ b ≤ 3 * a + 3

theorem good_same {x : Int} {a b : Tr} (ia : Wb a) (ib : Wb b) (h1 : ¬ 3 * wt b < wt a) (h2 : ¬ 3 * wt a < wt b) : Good (keys a ++ x :: keys b) (mkn x a b) := ⟨mkn_wb ia ib (by omega) (by omega), rfl⟩
theorem good_ls {x y my : Int} {c d b : Tr} (ia : Wb (.node y my c d)) (ib : Wb b) (h : 3 * wt b < wt (.node y my c d)) (n : Near (wt b) (wt (.node y my c d))) (hd : ¬ 2 * wt c ≤ wt d) : Good (keys (.node y my c d) ++ x :: keys b) (mkn y c (mkn x d b)) := by
  obtain ⟨-, h1, h2, h3, h4⟩ := ia
  rw [wt_node] at h n
  unfold Near at n
  have p1 := wt_pos b
  have p2 := wt_pos c
  have p3 := wt_pos d
  exact ⟨mkn_wb h3 (mkn_wb h4 ib (by omega) (by omega)) (by rw [wt_mkn]; omega) (by rw [wt_mkn]; omega), by simp [keys_mkn, keys]⟩
theorem good_ld {x y my z mz : Int} {c r s b : Tr} (ia : Wb (.node y my c (.node z mz r s))) (ib : Wb b) (h : 3 * wt b < wt (.node y my c (.node z mz r s))) (n : Near (wt b) (wt (.node y my c (.node z mz r s)))) (hd : 2 * wt c ≤ wt (.node z mz r s)) : Good (keys (.node y my c (.node z mz r s)) ++ x :: keys b) (mkn z (mkn y c r) (mkn x s b)) := by
  obtain ⟨-, h1, h2, h3, -, h5, h6, h7, h8⟩ := ia
  rw [wt_node, wt_node] at h n
  rw [wt_node] at h1 h2 hd
  unfold Near at n
  have p1 := wt_pos b
  have p2 := wt_pos c
  have p3 := wt_pos r
  have p4 := wt_pos s
  exact ⟨mkn_wb (mkn_wb h3 h7 (by omega) (by omega)) (mkn_wb h8 ib (by omega) (by omega)) (by rw [wt_mkn, wt_mkn]; omega) (by rw [wt_mkn, wt_mkn]; omega), by simp [keys_mkn, keys]⟩
theorem good_rs {x y my : Int} {c d a : Tr} (ia : Wb a) (ib : Wb (.node y my c d)) (h : 3 * wt a < wt (.node y my c d)) (n : Near (wt a) (wt (.node y my c d))) (hd : ¬ 2 * wt d ≤ wt c) : Good (keys a ++ x :: keys (.node y my c d)) (mkn y (mkn x a c) d) := by
  obtain ⟨-, h1, h2, h3, h4⟩ := ib
  rw [wt_node] at h n
  unfold Near at n
  have p1 := wt_pos a
  have p2 := wt_pos c
  have p3 := wt_pos d
  exact ⟨mkn_wb (mkn_wb ia h3 (by omega) (by omega)) h4 (by rw [wt_mkn]; omega) (by rw [wt_mkn]; omega), by simp [keys_mkn, keys]⟩
theorem good_rd {x y my z mz : Int} {d r s a : Tr} (ia : Wb a) (ib : Wb (.node y my (.node z mz r s) d)) (h : 3 * wt a < wt (.node y my (.node z mz r s) d)) (n : Near (wt a) (wt (.node y my (.node z mz r s) d))) (hd : 2 * wt d ≤ wt (.node z mz r s)) : Good (keys a ++ x :: keys (.node y my (.node z mz r s) d)) (mkn z (mkn x a r) (mkn y s d)) := by
  obtain ⟨-, h1, h2, ⟨-, h5, h6, h7, h8⟩, h4⟩ := ib
  rw [wt_node, wt_node] at h n
  rw [wt_node] at h1 h2 hd
  unfold Near at n
  have p1 := wt_pos a
  have p2 := wt_pos d
  have p3 := wt_pos r
  have p4 := wt_pos s
  exact ⟨mkn_wb (mkn_wb ia h7 (by omega) (by omega)) (mkn_wb h8 h4 (by omega) (by omega)) (by rw [wt_mkn, wt_mkn]; omega) (by rw [wt_mkn, wt_mkn]; omega), by simp [keys_mkn, keys]⟩

/-! ### what is less, what is greater; in both; in one -/
def lo (x : Int) (l : List Int) : List Int := l.filter fun y => decide (y < x)
def hi (x : Int) (l : List Int) : List Int := l.filter fun y => decide (x < y)
theorem mem_lo {x z : Int} {l : List Int} : z ∈ lo x l ↔ z ∈ l ∧ z < x := by simp [lo]
theorem mem_hi {x z : Int} {l : List Int} : z ∈ hi x l ↔ z ∈ l ∧ x < z := by simp [hi]
theorem lo_asc (x : Int) {l : List Int} (h : Asc l) : Asc (lo x l) := List.Pairwise.filter _ h
theorem hi_asc (x : Int) {l : List Int} (h : Asc l) : Asc (hi x l) := List.Pairwise.filter _ h
theorem lo_le (x : Int) (l : List Int) : (lo x l).length ≤ l.length := List.length_filter_le _ _
theorem hi_le (x : Int) (l : List Int) : (hi x l).length ≤ l.length := List.length_filter_le _ _
theorem lo_hi_le (x : Int) : ∀ (l : List Int), (lo x l).length + (hi x l).length ≤ l.length
  | [] => by simp [lo, hi]
  | y :: l => by
    have := lo_hi_le x l
    unfold lo hi at this ⊢
    by_cases h1 : y < x
    · rw [List.filter_cons_of_pos (by simpa using h1), List.filter_cons_of_neg (by simp; omega)]; simp only [List.length_cons]; omega
    · by_cases h2 : x < y
      · rw [List.filter_cons_of_neg (by simpa using h1), List.filter_cons_of_pos (by simpa using h2)]; simp only [List.length_cons]; omega
      · rw [List.filter_cons_of_neg (by simpa using h1), List.filter_cons_of_neg (by simpa using h2)]; simp only [List.length_cons]; omega
theorem lo_nil (x : Int) : lo x [] = [] := rfl
theorem hi_nil (x : Int) : hi x [] = [] := rfl
/-- all are less, none is -/
theorem lo_all {x : Int} {l : List Int} (h : ∀ y ∈ l, y < x) : lo x l = l := by
  unfold lo; rw [List.filter_eq_self]; intro y hy; simpa using h y hy
theorem hi_none {x : Int} {l : List Int} (h : ∀ y ∈ l, y ≤ x) : hi x l = [] := by
  unfold hi; rw [List.filter_eq_nil_iff]; intro y hy; have := h y hy; simp; omega
theorem hi_all {x : Int} {l : List Int} (h : ∀ y ∈ l, x < y) : hi x l = l := by
  unfold hi; rw [List.filter_eq_self]; intro y hy; simpa using h y hy
theorem lo_none {x : Int} {l : List Int} (h : ∀ y ∈ l, x ≤ y) : lo x l = [] := by
  unfold lo; rw [List.filter_eq_nil_iff]; intro y hy; have := h y hy; simp; omega
theorem lo_app (x : Int) (a b : List Int) : lo x (a ++ b) = lo x a ++ lo x b := List.filter_append _ _
theorem hi_app (x : Int) (a b : List Int) : hi x (a ++ b) = hi x a ++ hi x b := List.filter_append _ _
theorem lo_left {x y : Int} {a b : List Int} (h : Asc (a ++ y :: b)) (hx : x ≤ y) : lo x (a ++ y :: b) = lo x a := by
  obtain ⟨-, -, -, h4⟩ := asc_node.1 h
  rw [lo_app, lo_none (l := y :: b), List.append_nil]
  intro z hz
  rcases List.mem_cons.1 hz with rfl | hz
  · exact hx
  · have := h4 z hz; omega
theorem hi_right {x y : Int} {a b : List Int} (h : Asc (a ++ y :: b)) (hx : y ≤ x) : hi x (a ++ y :: b) = hi x b := by
  obtain ⟨-, -, h3, -⟩ := asc_node.1 h
  have e : hi x (y :: b) = hi x b := by unfold hi; exact List.filter_cons_of_neg (by simp; omega)
  rw [hi_app, hi_none (l := a), List.nil_append, e]
  intro z hz
  have := h3 z hz; omega
theorem hi_left {x y : Int} {a b : List Int} (h : Asc (a ++ y :: b)) (hx : x < y) : hi x (a ++ y :: b) = hi x a ++ y :: b := by
  obtain ⟨-, -, -, h4⟩ := asc_node.1 h
  rw [hi_app, hi_all (l := y :: b)]
  intro z hz
  rcases List.mem_cons.1 hz with rfl | hz
  · exact hx
  · have := h4 z hz; omega
theorem lo_right {x y : Int} {a b : List Int} (h : Asc (a ++ y :: b)) (hx : y < x) : lo x (a ++ y :: b) = a ++ y :: lo x b := by
  obtain ⟨-, -, h3, -⟩ := asc_node.1 h
  have e : lo x (y :: b) = y :: lo x b := by unfold lo; exact List.filter_cons_of_pos (by simpa using hx)
  rw [lo_app, lo_all (l := a), e]
  intro z hz
  have := h3 z hz; omega
theorem lo_mid {x : Int} {a b : List Int} (h : Asc (a ++ x :: b)) : lo x (a ++ x :: b) = a := by
  rw [lo_left h (Int.le_refl _), lo_all (asc_node.1 h).2.2.1]
theorem hi_mid {x : Int} {a b : List Int} (h : Asc (a ++ x :: b)) : hi x (a ++ x :: b) = b := by
  rw [hi_right h (Int.le_refl _), hi_all (asc_node.1 h).2.2.2]

/-- both sets' numbers -/
def uni (a b : List Int) : List Int := uniq (a ++ b)
theorem mem_uni {z : Int} {a b : List Int} : z ∈ uni a b ↔ z ∈ a ∨ z ∈ b := by rw [uni, mem_uniq, List.mem_append]
theorem uni_asc (a b : List Int) : Asc (uni a b) := uniq_asc _
theorem uni_le (a b : List Int) : (uni a b).length ≤ a.length + b.length := by
  have := uniq_le (a ++ b)
  rw [List.length_append] at this
  exact this
theorem uni_of {a b s : List Int} (hs : Asc s) (h : ∀ z, z ∈ s ↔ z ∈ a ∨ z ∈ b) : s = uni a b := hs.one (uni_asc a b) fun z => by rw [h, mem_uni]
theorem uni_nil {b : List Int} (h : Asc b) : uni [] b = b := (uni_of h fun z => by simp).symm
theorem nil_uni {a : List Int} (h : Asc a) : uni a [] = a := (uni_of h fun z => by simp).symm
/-- those of a that b has, or has not -/
def cho (f : Bool) (a b : List Int) : List Int := a.filter fun z => decide (z ∈ b) == f
theorem mem_cho {f : Bool} {z : Int} {a b : List Int} : z ∈ cho f a b ↔ z ∈ a ∧ decide (z ∈ b) = f := by simp [cho]
theorem mem_mee {z : Int} {a b : List Int} : z ∈ cho true a b ↔ z ∈ a ∧ z ∈ b := by rw [mem_cho]; simp
theorem mem_dif {z : Int} {a b : List Int} : z ∈ cho false a b ↔ z ∈ a ∧ z ∉ b := by rw [mem_cho]; simp
theorem cho_asc (f : Bool) {a : List Int} (b : List Int) (h : Asc a) : Asc (cho f a b) := List.Pairwise.filter _ h
theorem cho_le (f : Bool) (a b : List Int) : (cho f a b).length ≤ a.length := List.length_filter_le _ _
theorem cho_of {f : Bool} {a b s : List Int} (ha : Asc a) (hs : Asc s) (h : ∀ z, z ∈ s ↔ z ∈ a ∧ decide (z ∈ b) = f) : s = cho f a b := hs.one (cho_asc f b ha) fun z => by rw [h, mem_cho]

/-- two, parted by x: what is united -/
theorem uni_node {x : Int} {a b K : List Int} (h : Asc (a ++ x :: b)) : Asc (uni a (lo x K) ++ x :: uni b (hi x K)) ∧ uni a (lo x K) ++ x :: uni b (hi x K) = uni (a ++ x :: b) K := by
  obtain ⟨h1, h2, h3, h4⟩ := asc_node.1 h
  have hs : Asc (uni a (lo x K) ++ x :: uni b (hi x K)) := asc_node.2 ⟨uni_asc _ _, uni_asc _ _, fun z hz => by
    rcases mem_uni.1 hz with hz | hz
    · exact h3 z hz
    · exact (mem_lo.1 hz).2, fun z hz => by
    rcases mem_uni.1 hz with hz | hz
    · exact h4 z hz
    · exact (mem_hi.1 hz).2⟩
  refine ⟨hs, uni_of hs fun z => ?_⟩
  simp only [List.mem_append, List.mem_cons, mem_uni, mem_lo, mem_hi]
  constructor
  · rintro ((h | h) | h | (h | h)) <;> simp [h]
  · rintro ((h | h | h) | h)
    · simp [h]
    · simp [h]
    · simp [h]
    · rcases Int.lt_trichotomy z x with e | e | e <;> simp [h, e]
theorem cho_node {f : Bool} {x : Int} {a b K : List Int} (h : Asc (a ++ x :: b)) : cho f (a ++ x :: b) K = if decide (x ∈ K) = f then cho f a (lo x K) ++ x :: cho f b (hi x K) else cho f a (lo x K) ++ cho f b (hi x K) := by
  obtain ⟨h1, h2, h3, h4⟩ := asc_node.1 h
  have e1 : cho f a K = cho f a (lo x K) := by
    unfold cho
    refine List.filter_congr fun z hz => ?_
    have := h3 z hz
    rw [show decide (z ∈ K) = decide (z ∈ lo x K) from decide_eq_decide.2 (by rw [mem_lo]; simp [this])]
  have e2 : cho f b K = cho f b (hi x K) := by
    unfold cho
    refine List.filter_congr fun z hz => ?_
    have := h4 z hz
    rw [show decide (z ∈ K) = decide (z ∈ hi x K) from decide_eq_decide.2 (by rw [mem_hi]; simp [this])]
  rw [show cho f (a ++ x :: b) K = cho f a K ++ cho f (x :: b) K from List.filter_append _ _, e1, ← e2]
  by_cases hf : decide (x ∈ K) = f
  · rw [if_pos hf, show cho f (x :: b) K = x :: cho f b K from List.filter_cons_of_pos (by simpa using hf)]
  · rw [if_neg hf, show cho f (x :: b) K = cho f b K from List.filter_cons_of_neg (by simpa using hf)]
end Go.Proofs.Ytlaflhnnddfkkaa.wbt
