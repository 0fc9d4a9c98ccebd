/- Search trees of numbers: plain mathematics, and such trees in memory. -/
import Derived.Test.YtlaflhnnddfkkaaChecked
import Derived.Test.YtlaflhnnddfkkaaHeap
import Derived.Test.YtlaflhnnddfkkaaReg
import Derived.Test.YtlaflhnnddfkkaaRel
import Derived.WalkKit
import Derived.BigQuiet
import Derived.Deep.QuietTactic
import Derived.StillTailTactics
import Derived.WalkSmall
import Derived.RegionTactic
import Derived.BigRegion
import Derived.Lib.Hide
import Derived.Deep.LoopGhost
namespace Go.Proofs.Ytlaflhnnddfkkaa.sch
open Go Go.RowKit

/-! ### sets as rising lists -/
/-- each number once, rising -/
def Asc (l : List Int) : Prop := l.Pairwise (· < ·)
theorem Asc.nil : Asc [] := List.Pairwise.nil
theorem Asc.one : ∀ {a b : List Int}, Asc a → Asc b → (∀ x, x ∈ a ↔ x ∈ b) → a = b
  | [], [], _, _, _ => rfl
  | [], y :: b, _, _, h => absurd ((h y).2 (by simp)) (by simp)
  | x :: a, [], _, _, h => absurd ((h x).1 (by simp)) (by simp)
  | x :: a, y :: b, ha, hb, h => by
    obtain ⟨h1, h2⟩ := List.pairwise_cons.1 ha
    obtain ⟨h3, h4⟩ := List.pairwise_cons.1 hb
    have hxy : x = y := by
      rcases List.mem_cons.1 ((h x).1 (by simp)) with e | e
      · exact e
      rcases List.mem_cons.1 ((h y).2 (by simp)) with e' | e'
      · exact e'.symm
      · have := h1 y e'; have := h3 x e; omega
    subst hxy
    refine congrArg _ (Asc.one h2 h4 fun z => ⟨fun hz => ?_, fun hz => ?_⟩)
    · have := h1 z hz
      rcases List.mem_cons.1 ((h z).1 (by simp [hz])) with e | e
      · omega
      · exact e
    · have := h3 z hz
      rcases List.mem_cons.1 ((h z).2 (by simp [hz])) with e | e
      · omega
      · exact e
/-- a number put into a rising list -/
def ins (x : Int) : List Int → List Int
  | [] => [x]
  | y :: l => if x < y then x :: y :: l else if x = y then y :: l else y :: ins x l
theorem mem_ins {x z : Int} : ∀ {l : List Int}, z ∈ ins x l ↔ z = x ∨ z ∈ l
  | [] => by simp [ins]
  | y :: l => by
    unfold ins
    split
    · simp
    · split
      · rename_i h; subst h; simp
      · rw [List.mem_cons, mem_ins, List.mem_cons]
        constructor
        · rintro (h | h | h) <;> simp [h]
        · rintro (h | h | h) <;> simp [h]
theorem ins_asc (x : Int) : ∀ {l : List Int}, Asc l → Asc (ins x l)
  | [], _ => by simp [ins, Asc]
  | y :: l, h => by
    obtain ⟨h1, h2⟩ := List.pairwise_cons.1 h
    unfold ins
    split
    · refine List.pairwise_cons.2 ⟨fun z hz => ?_, h⟩
      rcases List.mem_cons.1 hz with rfl | hz
      · assumption
      · have := h1 z hz; omega
    · split
      · exact h
      · refine List.pairwise_cons.2 ⟨fun z hz => ?_, ins_asc x h2⟩
        rcases mem_ins.1 hz with rfl | hz
        · omega
        · exact h1 z hz
theorem ins_of {x : Int} {l s : List Int} (hl : Asc l) (hs : Asc s) (h : ∀ z, z ∈ s ↔ z = x ∨ z ∈ l) : s = ins x l :=
  hs.one (ins_asc x hl) fun z => by rw [h, mem_ins]
theorem ins_same {x : Int} {l : List Int} (hl : Asc l) (h : x ∈ l) : ins x l = l :=
  ((ins_of hl hl fun z => ⟨fun hz => .inr hz, fun hz => by rcases hz with rfl | hz <;> assumption⟩)).symm
theorem ins_len {x : Int} : ∀ {l : List Int}, Asc l → x ∉ l → (ins x l).length = l.length + 1
  | [], _, _ => by simp [ins]
  | y :: l, h, hx => by
    obtain ⟨h1, h2⟩ := List.pairwise_cons.1 h
    simp only [List.mem_cons, not_or] at hx
    unfold ins
    split
    · simp
    · rw [if_neg hx.1, List.length_cons, ins_len h2 hx.2, List.length_cons]
theorem ins_le (x : Int) : ∀ (l : List Int), (ins x l).length ≤ l.length + 1
  | [] => by simp [ins]
  | y :: l => by
    have := ins_le x l
    unfold ins
    split
    · simp
    · split <;> simp <;> omega
/-- a list without a number -/
def del (x : Int) (l : List Int) : List Int := l.filter fun y => decide (y ≠ x)
theorem mem_del {x z : Int} {l : List Int} : z ∈ del x l ↔ z ∈ l ∧ z ≠ x := by simp [del]
theorem del_asc (x : Int) {l : List Int} (h : Asc l) : Asc (del x l) := List.Pairwise.filter _ h
theorem del_of {x : Int} {l s : List Int} (hl : Asc l) (hs : Asc s) (h : ∀ z, z ∈ s ↔ z ∈ l ∧ z ≠ x) : s = del x l :=
  hs.one (del_asc x hl) fun z => by rw [h, mem_del]
theorem del_same {x : Int} {l : List Int} (h : x ∉ l) : del x l = l := by
  unfold del
  rw [List.filter_eq_self]
  intro y hy
  simp only [ne_eq, decide_eq_true_eq]
  rintro rfl
  exact h hy
theorem del_le (x : Int) (l : List Int) : (del x l).length ≤ l.length := List.length_filter_le _ _
theorem del_len {x : Int} : ∀ {l : List Int}, Asc l → x ∈ l → (del x l).length + 1 = l.length
  | y :: l, h, hx => by
    obtain ⟨h1, h2⟩ := List.pairwise_cons.1 h
    by_cases e : y = x
    · subst e
      have hn : y ∉ l := fun hy => by have := h1 y hy; omega
      have h3 := del_same hn
      unfold del at h3 ⊢
      rw [List.filter_cons_of_neg (by simp), h3, List.length_cons]
    · have hx' : x ∈ l := by
        rcases List.mem_cons.1 hx with e' | e'
        · exact absurd e'.symm e
        · exact e'
      have h3 := del_len h2 hx'
      unfold del at h3 ⊢
      rw [List.filter_cons_of_pos (by simpa using e), List.length_cons, List.length_cons, h3]
/-- each number once, rising -/
def uniq (l : List Int) : List Int := l.foldr ins []
theorem mem_uniq {z : Int} : ∀ {l : List Int}, z ∈ uniq l ↔ z ∈ l
  | [] => by simp [uniq]
  | x :: l => by
    show z ∈ ins x (uniq l) ↔ _
    rw [mem_ins, mem_uniq, List.mem_cons]
theorem uniq_asc : ∀ (l : List Int), Asc (uniq l)
  | [] => Asc.nil
  | x :: l => ins_asc x (uniq_asc l)
theorem uniq_of {l s : List Int} (hs : Asc s) (h : ∀ z, z ∈ s ↔ z ∈ l) : s = uniq l := hs.one (uniq_asc l) fun z => by rw [h, mem_uniq]
theorem uniq_le : ∀ (l : List Int), (uniq l).length ≤ l.length
  | [] => by simp [uniq]
  | x :: l => by
    have h1 := ins_le x (uniq l)
    have h2 := uniq_le l
    show (ins x (uniq l)).length ≤ _
    rw [List.length_cons]
    omega
theorem uniq_snoc (l : List Int) (x : Int) : uniq (l ++ [x]) = ins x (uniq l) :=
  ins_of (uniq_asc l) (uniq_asc _) fun z => by rw [mem_uniq, mem_uniq, List.mem_append, List.mem_singleton]; exact Or.comm
theorem uniq_same {l : List Int} (h : Asc l) : uniq l = l := (uniq_of h fun _ => Iff.rfl).symm
theorem uniq_wf {l : List Int} (h : ∀ x ∈ l, (Lit.int .i64 x).wf = true) : ∀ x ∈ uniq l, (Lit.int .i64 x).wf = true := fun x hx => h x (mem_uniq.1 hx)
theorem ins_wf {x : Int} {l : List Int} (hx : (Lit.int .i64 x).wf = true) (h : ∀ x ∈ l, (Lit.int .i64 x).wf = true) : ∀ y ∈ ins x l, (Lit.int .i64 y).wf = true := fun y hy => by
  rcases mem_ins.1 hy with rfl | hy
  · exact hx
  · exact h y hy
theorem del_wf {x : Int} {l : List Int} (h : ∀ x ∈ l, (Lit.int .i64 x).wf = true) : ∀ y ∈ del x l, (Lit.int .i64 y).wf = true := fun y hy => h y (mem_del.1 hy).1

/-! ### trees -/
/-- a tree: its number, its mark, what is left, what is right -/
inductive Tr where
  | nil
  | node (x m : Int) (l r : Tr)

/-- all numbers, from the left to the right -/
def keys : Tr → List Int
  | .nil => []
  | .node x _ l r => keys l ++ x :: keys r
def hgt : Tr → Nat
  | .nil => 0
  | .node _ _ l r => max (hgt l) (hgt r) + 1
theorem hgt_le : ∀ (t : Tr), hgt t ≤ (keys t).length
  | .nil => by simp [hgt, keys]
  | .node x m l r => by
    have h1 := hgt_le l
    have h2 := hgt_le r
    simp only [hgt, keys, List.length_append, List.length_cons]
    omega
theorem asc_node {x : Int} {a b : List Int} : Asc (a ++ x :: b) ↔ Asc a ∧ Asc b ∧ (∀ y ∈ a, y < x) ∧ (∀ y ∈ b, x < y) := by
  unfold Asc
  rw [List.pairwise_append, List.pairwise_cons]
  constructor
  · rintro ⟨h1, ⟨h2, h3⟩, h4⟩
    exact ⟨h1, h3, fun y hy => h4 y hy x (by simp), h2⟩
  · rintro ⟨h1, h2, h3, h4⟩
    refine ⟨h1, ⟨h4, h2⟩, fun y hy z hz => ?_⟩
    rcases List.mem_cons.1 hz with rfl | hz
    · exact h3 y hy
    · have := h3 y hy; have := h4 z hz; omega
/-- a number is put on the left, on the right -/
theorem ins_left {x y : Int} {a b : List Int} (h : Asc (a ++ x :: b)) (hy : y < x) : ins y (a ++ x :: b) = ins y a ++ x :: b := by
  obtain ⟨h1, h2, h3, h4⟩ := asc_node.1 h
  refine (ins_of h (asc_node.2 ⟨ins_asc y h1, h2, fun z hz => ?_, h4⟩) fun z => ?_).symm
  · rcases mem_ins.1 hz with rfl | hz
    · exact hy
    · exact h3 z hz
  · simp only [List.mem_append, mem_ins, List.mem_cons]
    constructor
    · rintro ((h | h) | h | h) <;> simp [h]
    · rintro (h | h | h | h) <;> simp [h]
theorem ins_right {x y : Int} {a b : List Int} (h : Asc (a ++ x :: b)) (hy : x < y) : ins y (a ++ x :: b) = a ++ x :: ins y b := by
  obtain ⟨h1, h2, h3, h4⟩ := asc_node.1 h
  refine (ins_of h (asc_node.2 ⟨h1, ins_asc y h2, h3, fun z hz => ?_⟩) fun z => ?_).symm
  · rcases mem_ins.1 hz with rfl | hz
    · exact hy
    · exact h4 z hz
  · simp only [List.mem_append, mem_ins, List.mem_cons]
    constructor
    · rintro (h | h | h | h) <;> simp [h]
    · rintro (h | h | h | h) <;> simp [h]
theorem not_left {x y : Int} {a b : List Int} (h : Asc (a ++ x :: b)) (hy : x ≤ y) : y ∉ a := fun hm => by
  have := (asc_node.1 h).2.2.1 y hm
  omega
theorem not_right {x y : Int} {a b : List Int} (h : Asc (a ++ x :: b)) (hy : y ≤ x) : y ∉ b := fun hm => by
  have := (asc_node.1 h).2.2.2 y hm
  omega
theorem del_app (x : Int) (a b : List Int) : del x (a ++ b) = del x a ++ del x b := List.filter_append _ _
theorem del_cons_ne {x y : Int} (h : y ≠ x) (b : List Int) : del x (y :: b) = y :: del x b := List.filter_cons_of_pos (by simpa using h)
theorem del_cons_self (x : Int) (b : List Int) : del x (x :: b) = del x b := List.filter_cons_of_neg (by simp)
theorem del_left {x y : Int} {a b : List Int} (h : Asc (a ++ x :: b)) (hy : y < x) : del y (a ++ x :: b) = del y a ++ x :: b := by
  rw [del_app, del_cons_ne (by omega), del_same (not_right h (by omega))]
theorem del_right {x y : Int} {a b : List Int} (h : Asc (a ++ x :: b)) (hy : x < y) : del y (a ++ x :: b) = a ++ x :: del y b := by
  rw [del_app, del_cons_ne (by omega), del_same (not_left h (by omega))]
theorem del_mid {x : Int} {a b : List Int} (h : Asc (a ++ x :: b)) : del x (a ++ x :: b) = a ++ b := by
  rw [del_app, del_cons_self, del_same (not_left h (Int.le_refl _)), del_same (not_right h (Int.le_refl _))]
theorem mem_left {x y : Int} {a b : List Int} (h : Asc (a ++ x :: b)) (hy : y < x) : y ∈ a ++ x :: b ↔ y ∈ a := by
  have := not_right h (Int.le_of_lt hy)
  simp only [List.mem_append, List.mem_cons]
  constructor
  · rintro (h | h | h)
    · exact h
    · omega
    · exact absurd h this
  · exact .inl
theorem mem_right {x y : Int} {a b : List Int} (h : Asc (a ++ x :: b)) (hy : x < y) : y ∈ a ++ x :: b ↔ y ∈ b := by
  have := not_left h (Int.le_of_lt hy)
  simp only [List.mem_append, List.mem_cons]
  constructor
  · rintro (h | h | h)
    · exact absurd h this
    · omega
    · exact h
  · exact fun h => .inr (.inr h)

abbrev tyT : TypeId := 62
abbrev tyP : TypeId := 25

/-- from p on: a tree, in blocks below B -/
def Nod (B : Nat) (W : World) : Tr → Option Addr → Prop
  | .nil, p => p = none
  | .node x m l r, p => ∃ (g : Nat) (c d : Option Addr), p = some ⟨g, 0, none⟩ ∧ g < B ∧ hp.Blk W g tyT [.int .i64 x, .int .i64 m, .pointer c, .pointer d] ∧ Nod B W l c ∧ Nod B W r d

/-- what stays: the blocks of trees -/
def Keep (W W' : World) : Prop := ∀ b cs, hp.Blk W b tyT cs → hp.Blk W' b tyT cs
theorem Keep.of_below {W W' : World} (h : Below W.heap.size W W') : Keep W W' := fun _ _ hk => hk.on h
theorem Keep.of_set {W : World} {g o : Nat} {t : TypeId} {cs : List Value} (hg : hp.Blk W g t cs) (h1 : t ≠ tyT) (v : Value) : Keep W (W.setCell ⟨g, o, none⟩ v) := by
  intro b cs' hk
  refine hk.other (fun e => ?_) v
  subst e
  unfold hp.Blk at hk hg
  rw [hk] at hg
  simp at hg
  exact h1 hg.2.symm
theorem Keep.trans {A W W' : World} (h : Keep A W) (h' : Keep W W') : Keep A W' := fun b cs hk => h' b cs (h b cs hk)

theorem Nod.below {B : Nat} {A W : World} (h : Below B A W) : ∀ {r : Tr} {p : Option Addr}, Nod B A r p → Nod B W r p
  | .nil, _, hl => hl
  | .node _ _ _ _, _, ⟨g, c, q, he, hg, hv, hb, hn⟩ => ⟨g, c, q, he, hg, hv.below h hg, Nod.below h hb, Nod.below h hn⟩
theorem Nod.keep {B : Nat} {A W : World} (h : Keep A W) : ∀ {r : Tr} {p : Option Addr}, Nod B A r p → Nod B W r p
  | .nil, _, hl => hl
  | .node _ _ _ _, _, ⟨g, c, q, he, hg, hv, hb, hn⟩ => ⟨g, c, q, he, hg, h _ _ hv, Nod.keep h hb, Nod.keep h hn⟩
theorem Nod.mono {B B' : Nat} {W : World} (h : B ≤ B') : ∀ {r : Tr} {p : Option Addr}, Nod B W r p → Nod B' W r p
  | .nil, _, hl => hl
  | .node _ _ _ _, _, ⟨g, c, q, he, hg, hv, hb, hn⟩ => ⟨g, c, q, he, by omega, hv, Nod.mono h hb, Nod.mono h hn⟩
theorem Nod.grow {B B' : Nat} {A W : World} {r : Tr} {p : Option Addr} (h : Nod B A r p) (hb : Below B A W) (hB : B ≤ B') : Nod B' W r p := (h.below hb).mono hB
theorem Nod.on {A W : World} {r : Tr} {p : Option Addr} (h : Nod A.heap.size A r p) (hb : Below A.heap.size A W) : Nod W.heap.size W r p := h.grow hb hb.size

theorem Nod.some {B : Nat} {W : World} {t : Tr} {p : Option Addr} (h : Nod B W t p) (ht : t ≠ .nil) : ∃ g, p = .some ⟨g, 0, none⟩ ∧ g < B := by
  cases t with
  | nil => exact absurd rfl ht
  | node x m l r => obtain ⟨g, _, _, e, hg, _⟩ := h; exact ⟨g, e, hg⟩
theorem keys_ne {t : Tr} (h : t ≠ .nil) : ∃ z tl, keys t = z :: tl := by
  cases t with
  | nil => exact absurd rfl h
  | node x m l r =>
    cases e : keys (.node x m l r) with
    | nil => simp [keys] at e
    | cons z tl => exact ⟨z, tl, rfl⟩
theorem hgt_ne {t : Tr} (h : t ≠ .nil) : 1 ≤ hgt t := by
  cases t with
  | nil => exact absurd rfl h
  | node x m l r => simp [hgt]

/-- a pointer to a tree of which G holds -/
def IsG (w : World) (u : Value) (G : Tr → Prop) : Prop := ∃ p t, u = .pointer p ∧ Nod w.heap.size w t p ∧ G t
theorem IsG.on {w w' : World} {u : Value} {G : Tr → Prop} (h : IsG w u G) (hb : Below w.heap.size w w') : IsG w' u G := by
  obtain ⟨p, t, hu, hn, hi⟩ := h
  exact ⟨p, t, hu, hn.on hb, hi⟩
theorem IsG.imp {w : World} {u : Value} {G G' : Tr → Prop} (h : IsG w u G) (hp : ∀ t, G t → G' t) : IsG w u G' := by
  obtain ⟨p, t, hu, hn, hi⟩ := h
  exact ⟨p, t, hu, hn, hp t hi⟩
/-- a pointer to this tree -/
def IsT (w : World) (u : Value) (t : Tr) : Prop := ∃ p, u = .pointer p ∧ Nod w.heap.size w t p
theorem IsT.on {w w' : World} {u : Value} {t : Tr} (h : IsT w u t) (hb : Below w.heap.size w w') : IsT w' u t := by
  obtain ⟨p, hu, hn⟩ := h
  exact ⟨p, hu, hn.on hb⟩
theorem IsT.nod {w : World} {p : Option Addr} {t : Tr} (h : IsT w (.pointer p) t) : Nod w.heap.size w t p := by
  obtain ⟨q, hu, hn⟩ := h
  cases hu
  exact hn
theorem IsT.g {w : World} {u : Value} {t : Tr} {G : Tr → Prop} (h : IsT w u t) (hg : G t) : IsG w u G := by
  obtain ⟨p, hu, hn⟩ := h
  exact ⟨p, t, hu, hn, hg⟩
theorem Nod.t {w : World} {p : Option Addr} {t : Tr} (h : Nod w.heap.size w t p) : IsT w (.pointer p) t := ⟨p, rfl, h⟩
abbrev rv (p : Option Addr) (n : Nat) : Value := .agg #[.pointer p, .int .i64 n]
theorem wrap_small {n : Int} (h : 0 ≤ n) (h' : n ≤ 9223372036854775807) : wrap64 n = n := IntWalk.wrap64_in _ ⟨by omega, by omega⟩
theorem wrap_add {n k : Nat} (h : n + k < 4611686018427387904) : wrap64 ((n : Int) + (k : Int)) = ((n + k : Nat) : Int) := by
  rw [wrap_small (by omega) (by omega)]; omega
end Go.Proofs.Ytlaflhnnddfkkaa.sch
