/- Leftist heaps: plain mathematics, and such trees in memory. -/
import Derived.Test.YtfaahopabcconaaChecked
import Derived.Test.YtfaahopabcconaaHeap
import Derived.Test.YtfaahopabcconaaReg
import Derived.Test.YtfaahopabcconaaRel
import Derived.Test.YtfaahopabcconaaBinMath
import Derived.WalkKit
import Derived.BigQuiet
import Derived.Deep.QuietTactic
import Derived.StillTailTactics
import Derived.WalkSmall
import Derived.RegionTactic
import Derived.BigRegion
import Derived.Lib.Hide
namespace Go.Proofs.Ytfaahopabcconaa.lef
open Go Go.RowKit
open Go.Proofs.Ytfaahopabcconaa.bin (srt srt_perm srt_len srt_rises rises_one srt_eq srt_of)

/-- a tree: its number, what is left, what is right -/
inductive Tr where
  | nil
  | node (x : Int) (l r : Tr)

/-- all numbers of a tree -/
def nums : Tr → List Int
  | .nil => []
  | .node x l r => x :: (nums l ++ nums r)
/-- how long the way to the right is -/
def spine : Tr → Nat
  | .nil => 0
  | .node _ _ r => spine r + 1
/-- none is less than the one above it; and no way to the right is longer than the one to the right from the left -/
def Ok : Tr → Prop
  | .nil => True
  | .node x l r => (∀ y ∈ nums l ++ nums r, x ≤ y) ∧ spine r ≤ spine l ∧ Ok l ∧ Ok r

theorem Ok.pow : ∀ {t : Tr}, Ok t → 2 ^ spine t ≤ (nums t).length + 1
  | .nil, _ => by simp [spine, nums]
  | .node x l r, ⟨_, h, hl, hr⟩ => by
    have h1 := hl.pow
    have h2 := hr.pow
    have h3 : 2 ^ spine r ≤ 2 ^ spine l := Nat.pow_le_pow_right (by omega) h
    simp only [spine, nums, List.length_cons, List.length_append, Nat.pow_succ]
    omega
theorem Ok.small {t : Tr} (h : Ok t) (hs : (nums t).length < 4611686018427387903) : spine t < 62 := by
  have := h.pow
  exact (Nat.pow_lt_pow_iff_right (a := 2) (by omega)).1 (Nat.lt_of_le_of_lt this (by simp; omega))
theorem Ok.top {x : Int} {l r : Tr} (h : Ok (.node x l r)) : ∀ y ∈ nums (.node x l r), x ≤ y := by
  intro y hy
  rcases List.mem_cons.1 hy with rfl | hy
  · exact Int.le_refl _
  · exact h.1 y hy
theorem spine_zero {t : Tr} : spine t = 0 ↔ (nums t).length = 0 := by
  cases t <;> simp [spine, nums]

/-- a tree of a number and two trees -/
def ovr (x : Int) (a b : Tr) : Tr := if spine a < spine b then .node x b a else .node x a b
theorem ovr_ok {x : Int} {a b : Tr} (ha : Ok a) (hb : Ok b) (h : ∀ y ∈ nums a ++ nums b, x ≤ y) : Ok (ovr x a b) := by
  unfold ovr
  by_cases hlt : spine a < spine b
  · rw [if_pos hlt]
    exact ⟨fun y hy => h y (by simp only [List.mem_append] at hy ⊢; exact hy.symm), by omega, hb, ha⟩
  · rw [if_neg hlt]
    exact ⟨h, by omega, ha, hb⟩
theorem ovr_nums (x : Int) (a b : Tr) : (nums (ovr x a b)).Perm (x :: (nums a ++ nums b)) := by
  unfold ovr
  by_cases hlt : spine a < spine b
  · rw [if_pos hlt]
    exact List.Perm.cons x List.perm_append_comm
  · rw [if_neg hlt]
    exact List.Perm.refl _

abbrev tyT : TypeId := 51

/-- from p on: a tree, in blocks below B -/
def Nod (B : Nat) (W : World) : Tr → Option Addr → Prop
  | .nil, p => p = none
  | .node x l r, p => ∃ (g : Nat) (c d : Option Addr), p = some ⟨g, 0, none⟩ ∧ g < B ∧ hp.Blk W g tyT [.int .i64 x, .int .i64 ((spine r + 1 : Nat) : Int), .pointer c, .pointer d] ∧ Nod B W l c ∧ Nod B W r d

/-- what stays: the blocks of trees -/
def Keep (W W' : World) : Prop := ∀ b cs, hp.Blk W b tyT cs → hp.Blk W' b tyT cs
theorem Keep.of_below {W W' : World} (h : Below W.heap.size W W') : Keep W W' := fun _ _ hk => hk.on h
theorem Keep.of_set {W : World} {g o : Nat} {t : TypeId} {cs : List Value} (hg : hp.Blk W g t cs) (h1 : t ≠ tyT) (v : Value) : Keep W (W.setCell ⟨g, o, none⟩ v) := by
  intro b cs' hk
  refine hk.other (fun e => ?_) v
  subst e
  unfold hp.Blk at hk hg
  rw [hk] at hg
  simp at hg
  exact h1 hg.2.symm
theorem Keep.trans {A W W' : World} (h : Keep A W) (h' : Keep W W') : Keep A W' := fun b cs hk => h' b cs (h b cs hk)

theorem Nod.below {B : Nat} {A W : World} (h : Below B A W) : ∀ {r : Tr} {p : Option Addr}, Nod B A r p → Nod B W r p
  | .nil, _, hl => hl
  | .node _ _ _, _, ⟨g, c, q, he, hg, hv, hb, hn⟩ => ⟨g, c, q, he, hg, hv.below h hg, Nod.below h hb, Nod.below h hn⟩
theorem Nod.keep {B : Nat} {A W : World} (h : Keep A W) : ∀ {r : Tr} {p : Option Addr}, Nod B A r p → Nod B W r p
  | .nil, _, hl => hl
  | .node _ _ _, _, ⟨g, c, q, he, hg, hv, hb, hn⟩ => ⟨g, c, q, he, hg, h _ _ hv, Nod.keep h hb, Nod.keep h hn⟩
theorem Nod.mono {B B' : Nat} {W : World} (h : B ≤ B') : ∀ {r : Tr} {p : Option Addr}, Nod B W r p → Nod B' W r p
  | .nil, _, hl => hl
  | .node _ _ _, _, ⟨g, c, q, he, hg, hv, hb, hn⟩ => ⟨g, c, q, he, by omega, hv, Nod.mono h hb, Nod.mono h hn⟩
theorem Nod.grow {B B' : Nat} {A W : World} {r : Tr} {p : Option Addr} (h : Nod B A r p) (hb : Below B A W) (hB : B ≤ B') : Nod B' W r p := (h.below hb).mono hB
theorem Nod.on {A W : World} {r : Tr} {p : Option Addr} (h : Nod A.heap.size A r p) (hb : Below A.heap.size A W) : Nod W.heap.size W r p := h.grow hb hb.size

/-- a pointer to a tree of these numbers -/
def IsTr (w : World) (u : Value) (l : List Int) : Prop := ∃ p t, u = .pointer p ∧ Nod w.heap.size w t p ∧ Ok t ∧ (nums t).Perm l
theorem IsTr.on {w w' : World} {u : Value} {l : List Int} (h : IsTr w u l) (hb : Below w.heap.size w w') : IsTr w' u l := by
  obtain ⟨p, t, hu, hn, hi⟩ := h
  exact ⟨p, t, hu, hn.on hb, hi⟩
theorem IsTr.perm {w : World} {u : Value} {l l' : List Int} (h : IsTr w u l) (hp : l.Perm l') : IsTr w u l' := by
  obtain ⟨p, t, hu, hn, hi, hl⟩ := h
  exact ⟨p, t, hu, hn, hi, hl.trans hp⟩
theorem IsTr.nil (w : World) : IsTr w (.pointer none) [] := ⟨none, .nil, rfl, rfl, trivial, List.Perm.refl _⟩

abbrev rv (p : Option Addr) (n : Nat) : Value := .agg #[.pointer p, .int .i64 n]

/-- a heap of these numbers, its trees below block B -/
def IsHeap (w : World) (B : Nat) (v : Value) (l : List Int) : Prop := ∃ p t, v = rv p l.length ∧ Nod B w t p ∧ Ok t ∧ (nums t).Perm l ∧ ∀ x ∈ l, (Lit.int .i64 x).wf = true

section
variable {w w' : World} {B B' : Nat} {v : Value} {l : List Int}
theorem IsHeap.below (h : IsHeap w B v l) (hb : Below B w w') : IsHeap w' B v l := by
  obtain ⟨p, r, hv, hc, hw⟩ := h
  exact ⟨p, r, hv, hc.below hb, hw⟩
theorem IsHeap.keep (h : IsHeap w B v l) (hb : Keep w w') : IsHeap w' B v l := by
  obtain ⟨p, r, hv, hc, hw⟩ := h
  exact ⟨p, r, hv, hc.keep hb, hw⟩
theorem IsHeap.mono (h : IsHeap w B v l) (hB : B ≤ B') : IsHeap w B' v l := by
  obtain ⟨p, r, hv, hc, hw⟩ := h
  exact ⟨p, r, hv, hc.mono hB, hw⟩
theorem IsHeap.on (h : IsHeap w w.heap.size v l) (hb : Below w.heap.size w w') : IsHeap w' w'.heap.size v l := (h.below hb).mono hb.size
theorem IsHeap.wf (h : IsHeap w B v l) : ∀ x ∈ l, (Lit.int .i64 x).wf = true := by obtain ⟨_, _, _, _, _, _, hw⟩ := h; exact hw
theorem IsHeap.nil (w : World) (B : Nat) : IsHeap w B (rv none 0) [] := ⟨none, .nil, rfl, rfl, trivial, by simp [nums], by simp⟩
theorem IsHeap.val (h : IsHeap w B v l) : ∃ p, v = rv p l.length := by obtain ⟨p, _, hv, _⟩ := h; exact ⟨p, hv⟩
end
theorem IsTr.heap {w : World} {p : Option Addr} {l l' : List Int} (h : IsTr w (.pointer p) l) (hp : l.Perm l') (hw : ∀ x ∈ l', (Lit.int .i64 x).wf = true) : IsHeap w w.heap.size (rv p l'.length) l' := by
  obtain ⟨q, t, hu, hn, hi, hl⟩ := h
  cases hu
  exact ⟨p, t, rfl, hn, hi, hl.trans hp, hw⟩
theorem wrap_small {n : Int} (h : 0 ≤ n) (h' : n ≤ 9223372036854775807) : wrap64 n = n := IntWalk.wrap64_in _ ⟨by omega, by omega⟩
theorem wrap_add {n k : Nat} (h : n + k < 4611686018427387904) : wrap64 ((n : Int) + (k : Int)) = ((n + k : Nat) : Int) := by
  rw [wrap_small (by omega) (by omega)]; omega

set_option maxHeartbeats 4000000 in
theorem length_any {t : Tr} {p : Option Addr} {w : World} (h : Nod w.heap.size w t p) :
    Calls Try.prog 27 #[.pointer p] w fun e w' => e = .returned (.int .i64 (spine t : Int)) ∧ Below w.heap.size w w' := by
  rcases t with _ | ⟨x, l, r⟩
  · obtain rfl : p = none := h
    go_enter Try.func27, Try.ntmps27
    go_wp2_with fail
    go_ret
    exact ⟨rfl, Below.refl _ _⟩
  · obtain ⟨g, c, d, rfl, hg, hk, -, -⟩ := h
    have c1 := hk.cell 1
    simp only [List.getElem?_cons_zero, List.getElem?_cons_succ] at c1
    show Calls _ _ _ _ fun e w' => e = .returned (.int .i64 ((spine r + 1 : Nat) : Int)) ∧ _
    generalize ((spine r + 1 : Nat) : Int) = K at *
    go_enter Try.func27, Try.ntmps27
    go_wp2_with fail
    go_ret
    exact ⟨rfl, Below.refl _ _⟩
end Go.Proofs.Ytfaahopabcconaa.lef
