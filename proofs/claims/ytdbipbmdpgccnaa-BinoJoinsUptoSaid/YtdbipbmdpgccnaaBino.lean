/- Binomial heaps in memory. -/
import Derived.Test.YtdbipbmdpgccnaaChecked
import Derived.Test.YtdbipbmdpgccnaaHeap
import Derived.Test.YtdbipbmdpgccnaaReg
import Derived.Test.YtdbipbmdpgccnaaRel
import Derived.Test.YtdbipbmdpgccnaaBinMath
import Derived.WalkKit
import Derived.BigQuiet
import Derived.Deep.QuietTactic
import Derived.StillTailTactics
import Derived.WalkSmall
import Derived.RegionTactic
import Derived.BigRegion
import Derived.Lib.Hide
namespace Go.Proofs.Ytdbipbmdpgccnaa.bin
open Go Go.RowKit

abbrev tyR : TypeId := 53
abbrev tyT : TypeId := 45

/-- from p on: a row of trees, in blocks below B -/
def Row (B : Nat) (W : World) : Rw → Option Addr → Prop
  | .nil, p => p = none
  | .cons x k b n, p => ∃ (g h : Nat) (c q : Option Addr), p = some ⟨g, 0, none⟩ ∧ g < B ∧ hp.Blk W g tyR [.pointer (some ⟨h, 0, none⟩), .pointer q] ∧ h < B ∧ hp.Blk W h tyT [.int .i64 x, .int .i64 k, .pointer c] ∧ Row B W b c ∧ Row B W n q
/-- a pointer to a tree -/
def Tre (B : Nat) (W : World) (x : Int) (k : Nat) (b : Rw) (p : Option Addr) : Prop := ∃ (h : Nat) (c : Option Addr), p = some ⟨h, 0, none⟩ ∧ h < B ∧ hp.Blk W h tyT [.int .i64 x, .int .i64 k, .pointer c] ∧ Row B W b c

/-- what stays: the blocks of rows and of trees -/
def Keep (W W' : World) : Prop := ∀ b t cs, (t = tyR ∨ t = tyT) → hp.Blk W b t cs → hp.Blk W' b t cs
theorem Keep.of_below {W W' : World} (h : Below W.heap.size W W') : Keep W W' := fun _ _ _ _ hk => hk.on h
theorem Keep.of_set {W : World} {g o : Nat} {t : TypeId} {cs : List Value} (hg : hp.Blk W g t cs) (h1 : t ≠ tyR) (h2 : t ≠ tyT) (v : Value) : Keep W (W.setCell ⟨g, o, none⟩ v) := by
  intro b t' cs' ht hk
  refine hk.other (fun e => ?_) v
  subst e
  unfold hp.Blk at hk hg
  rw [hk] at hg
  simp at hg
  rcases ht with rfl | rfl
  · exact h1 hg.2.symm
  · exact h2 hg.2.symm

theorem Row.below {B : Nat} {A W : World} (h : Below B A W) : ∀ {r : Rw} {p : Option Addr}, Row B A r p → Row B W r p
  | .nil, _, hl => hl
  | .cons _ _ _ _, _, ⟨g, t, c, q, he, hg, hv, ht, hu, hb, hn⟩ => ⟨g, t, c, q, he, hg, hv.below h hg, ht, hu.below h ht, Row.below h hb, Row.below h hn⟩
theorem Row.keep {B : Nat} {A W : World} (h : Keep A W) : ∀ {r : Rw} {p : Option Addr}, Row B A r p → Row B W r p
  | .nil, _, hl => hl
  | .cons _ _ _ _, _, ⟨g, t, c, q, he, hg, hv, ht, hu, hb, hn⟩ => ⟨g, t, c, q, he, hg, h _ _ _ (.inl rfl) hv, ht, h _ _ _ (.inr rfl) hu, Row.keep h hb, Row.keep h hn⟩
theorem Row.mono {B B' : Nat} {W : World} (h : B ≤ B') : ∀ {r : Rw} {p : Option Addr}, Row B W r p → Row B' W r p
  | .nil, _, hl => hl
  | .cons _ _ _ _, _, ⟨g, t, c, q, he, hg, hv, ht, hu, hb, hn⟩ => ⟨g, t, c, q, he, by omega, hv, by omega, hu, Row.mono h hb, Row.mono h hn⟩
theorem Row.grow {B B' : Nat} {A W : World} {r : Rw} {p : Option Addr} (h : Row B A r p) (hb : Below B A W) (hB : B ≤ B') : Row B' W r p := (h.below hb).mono hB
theorem Tre.grow {B B' : Nat} {A W : World} {x : Int} {k : Nat} {b : Rw} {p : Option Addr} (h : Tre B A x k b p) (hb : Below B A W) (hB : B ≤ B') : Tre B' W x k b p := by
  obtain ⟨t, c, he, ht, hu, hr⟩ := h
  exact ⟨t, c, he, by omega, hu.below hb ht, hr.grow hb hB⟩
theorem Tre.on {A W : World} {x : Int} {k : Nat} {b : Rw} {p : Option Addr} (h : Tre A.heap.size A x k b p) (hb : Below A.heap.size A W) : Tre W.heap.size W x k b p := h.grow hb hb.size
theorem Row.on {A W : World} {r : Rw} {p : Option Addr} (h : Row A.heap.size A r p) (hb : Below A.heap.size A W) : Row W.heap.size W r p := h.grow hb hb.size
/-- a new row, of a tree and the trees behind it -/
theorem Row.mk {W : World} {g : Nat} {x : Int} {k : Nat} {b n : Rw} {t q : Option Addr} (hg : hp.Blk W g tyR [.pointer t, .pointer q]) (ht : Tre W.heap.size W x k b t) (hn : Row W.heap.size W n q) : Row W.heap.size W (.cons x k b n) (some ⟨g, 0, none⟩) := by
  obtain ⟨h, c, rfl, hh, hu, hr⟩ := ht
  exact ⟨g, h, c, q, rfl, hg.lt, hg, hh, hu, hr, hn⟩
/-- a new tree -/
theorem Tre.mk {W : World} {g : Nat} {x : Int} {k : Nat} {b : Rw} {c : Option Addr} (hg : hp.Blk W g tyT [.int .i64 x, .int .i64 k, .pointer c]) (hn : Row W.heap.size W b c) : Tre W.heap.size W x k b (some ⟨g, 0, none⟩) :=
  ⟨g, c, rfl, hg.lt, hg, hn⟩

theorem Row.one {B : Nat} {W : World} : ∀ {r s : Rw} {p : Option Addr}, Row B W r p → Row B W s p → ranks r = ranks s
  | .nil, .nil, _, _, _ => rfl
  | .nil, .cons _ _ _ _, _, h, ⟨_, _, _, _, he, _⟩ => by obtain rfl := h; cases he
  | .cons _ _ _ _, .nil, _, ⟨_, _, _, _, he, _⟩, h => by obtain rfl := h; cases he
  | .cons x k b n, .cons y j c m, _, ⟨g, t, c1, q, he, hg, hv, ht, hu, hb, hn⟩, ⟨g', t', c1', q', he', hg', hv', ht', hu', hb', hn'⟩ => by
    rw [he] at he'; cases he'
    unfold hp.Blk at hv hv'
    rw [hv] at hv'; simp at hv'
    obtain ⟨rfl, rfl⟩ := hv'
    unfold hp.Blk at hu hu'
    rw [hu] at hu'; simp at hu'
    obtain ⟨-, hk, -⟩ := hu'
    obtain rfl : k = j := by omega
    simp [ranks, Row.one hn hn']
open Classical in
/-- how many trees are still to come -/
noncomputable def left (B : Nat) (W : World) (v : Value) : Nat :=
  if h : ∃ r : Option Addr × Rw, v = .pointer r.1 ∧ Row B W r.2 r.1 then (ranks (Classical.choose h).2).length else 0
theorem left_eq {B : Nat} {W : World} {q : Option Addr} {r : Rw} (h : Row B W r q) : left B W (.pointer q) = (ranks r).length := by
  have hex : ∃ r : Option Addr × Rw, Value.pointer q = .pointer r.1 ∧ Row B W r.2 r.1 := ⟨(q, r), rfl, h⟩
  unfold left
  rw [dif_pos hex]
  obtain ⟨e, hl⟩ := Classical.choose_spec hex
  have e' : q = (Classical.choose hex).1 := by simpa using e
  rw [← e'] at hl
  rw [Row.one hl h]

abbrev rv (p : Option Addr) : Value := .agg #[.pointer p]

/-- a heap of these numbers, its trees below block B -/
def IsHeap (w : World) (B : Nat) (v : Value) (l : List Int) : Prop := ∃ p r, v = rv p ∧ Row B w r p ∧ Inc 0 r ∧ (nums r).Perm l ∧ ∀ x ∈ l, (Lit.int .i64 x).wf = true

section
variable {w w' : World} {B B' : Nat} {v : Value} {l : List Int}
theorem IsHeap.below (h : IsHeap w B v l) (hb : Below B w w') : IsHeap w' B v l := by
  obtain ⟨p, r, hv, hc, hw⟩ := h
  exact ⟨p, r, hv, hc.below hb, hw⟩
theorem IsHeap.keep (h : IsHeap w B v l) (hb : Keep w w') : IsHeap w' B v l := by
  obtain ⟨p, r, hv, hc, hw⟩ := h
  exact ⟨p, r, hv, hc.keep hb, hw⟩
theorem IsHeap.mono (h : IsHeap w B v l) (hB : B ≤ B') : IsHeap w B' v l := by
  obtain ⟨p, r, hv, hc, hw⟩ := h
  exact ⟨p, r, hv, hc.mono hB, hw⟩
theorem IsHeap.on (h : IsHeap w w.heap.size v l) (hb : Below w.heap.size w w') : IsHeap w' w'.heap.size v l := (h.below hb).mono hb.size
theorem IsHeap.wf (h : IsHeap w B v l) : ∀ x ∈ l, (Lit.int .i64 x).wf = true := by obtain ⟨_, _, _, _, _, _, hw⟩ := h; exact hw
theorem IsHeap.nil (w : World) (B : Nat) : IsHeap w B (rv none) [] := ⟨none, .nil, rfl, rfl, trivial, by simp [nums], by simp⟩
theorem IsHeap.val (h : IsHeap w B v l) : ∃ p, v = rv p := by obtain ⟨p, _, hv, _⟩ := h; exact ⟨p, hv⟩
theorem IsHeap.perm {l' : List Int} (h : IsHeap w B v l) (hp : l.Perm l') : IsHeap w B v l' := by
  obtain ⟨p, r, hv, hc, hi, hn, hw⟩ := h
  exact ⟨p, r, hv, hc, hi, hn.trans hp, fun x hx => hw x (hp.mem_iff.2 hx)⟩
end
theorem wrap_small {n : Int} (h : 0 ≤ n) (h' : n ≤ 9223372036854775807) : wrap64 n = n := IntWalk.wrap64_in _ ⟨by omega, by omega⟩
end Go.Proofs.Ytdbipbmdpgccnaa.bin
