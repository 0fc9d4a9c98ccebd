/- Pairing heaps: plain mathematics, and such trees in memory. -/
import Derived.Test.YtnfoadhhgonfkaaChecked
import Derived.Test.YtnfoadhhgonfkaaHeap
import Derived.Test.YtnfoadhhgonfkaaReg
import Derived.Test.YtnfoadhhgonfkaaRel
import Derived.Test.YtnfoadhhgonfkaaBinMath
import Derived.WalkKit
import Derived.BigQuiet
import Derived.Deep.QuietTactic
import Derived.StillTailTactics
import Derived.WalkSmall
import Derived.RegionTactic
import Derived.BigRegion
import Derived.Lib.Hide
namespace Go.Proofs.Ytnfoadhhgonfkaa.par
open Go Go.RowKit
open Go.Proofs.Ytnfoadhhgonfkaa.bin (srt srt_perm srt_len srt_rises rises_one srt_eq srt_of)

/-- a row of trees: the first one's number, the row below it, those behind it -/
inductive Rw where
  | nil
  | cons (x : Int) (b n : Rw)

/-- all numbers of a row -/
def nums : Rw → List Int
  | .nil => []
  | .cons x b n => x :: (nums b ++ nums n)
/-- how many trees it has -/
def many : Rw → Nat
  | .nil => 0
  | .cons _ _ n => many n + 1
/-- none is less than the one above it -/
def Ok : Rw → Prop
  | .nil => True
  | .cons x b n => (∀ y ∈ nums b, x ≤ y) ∧ Ok b ∧ Ok n

/-- a tree, or none -/
abbrev Tr := Option (Int × Rw)
def tnums : Tr → List Int
  | none => []
  | some (x, b) => x :: nums b
def TOk : Tr → Prop
  | none => True
  | some (x, b) => (∀ y ∈ nums b, x ≤ y) ∧ Ok b

theorem TOk.top {x : Int} {b : Rw} (h : TOk (some (x, b))) : ∀ y ∈ tnums (some (x, b)), x ≤ y := by
  intro y hy
  rcases List.mem_cons.1 hy with rfl | hy
  · exact Int.le_refl _
  · exact h.1 y hy

abbrev tyR : TypeId := 55
abbrev tyT : TypeId := 46

/-- from p on: a row of trees, in blocks below B -/
def Row (B : Nat) (W : World) : Rw → Option Addr → Prop
  | .nil, p => p = none
  | .cons x b n, p => ∃ (g h : Nat) (c q : Option Addr), p = some ⟨g, 0, none⟩ ∧ g < B ∧ hp.Blk W g tyR [.pointer (some ⟨h, 0, none⟩), .pointer q] ∧ h < B ∧ hp.Blk W h tyT [.int .i64 x, .pointer c] ∧ Row B W b c ∧ Row B W n q
/-- a pointer to a tree, or to none -/
def Tre (B : Nat) (W : World) : Tr → Option Addr → Prop
  | none, p => p = none
  | some (x, b), p => ∃ (h : Nat) (c : Option Addr), p = some ⟨h, 0, none⟩ ∧ h < B ∧ hp.Blk W h tyT [.int .i64 x, .pointer c] ∧ Row B W b c

/-- what stays: the blocks of rows and of trees -/
def Keep (W W' : World) : Prop := ∀ b t cs, (t = tyR ∨ t = tyT) → hp.Blk W b t cs → hp.Blk W' b t cs
theorem Keep.of_below {W W' : World} (h : Below W.heap.size W W') : Keep W W' := fun _ _ _ _ hk => hk.on h
theorem Keep.of_set {W : World} {g o : Nat} {t : TypeId} {cs : List Value} (hg : hp.Blk W g t cs) (h1 : t ≠ tyR) (h2 : t ≠ tyT) (v : Value) : Keep W (W.setCell ⟨g, o, none⟩ v) := by
  intro b t' cs' ht hk
  refine hk.other (fun e => ?_) v
  subst e
  unfold hp.Blk at hk hg
  rw [hk] at hg
  simp at hg
  rcases ht with rfl | rfl
  · exact h1 hg.2.symm
  · exact h2 hg.2.symm
theorem Keep.trans {A W W' : World} (h : Keep A W) (h' : Keep W W') : Keep A W' := fun b t cs ht hk => h' b t cs ht (h b t cs ht hk)

theorem Row.below {B : Nat} {A W : World} (h : Below B A W) : ∀ {r : Rw} {p : Option Addr}, Row B A r p → Row B W r p
  | .nil, _, hl => hl
  | .cons _ _ _, _, ⟨g, t, c, q, he, hg, hv, ht, hu, hb, hn⟩ => ⟨g, t, c, q, he, hg, hv.below h hg, ht, hu.below h ht, Row.below h hb, Row.below h hn⟩
theorem Row.keep {B : Nat} {A W : World} (h : Keep A W) : ∀ {r : Rw} {p : Option Addr}, Row B A r p → Row B W r p
  | .nil, _, hl => hl
  | .cons _ _ _, _, ⟨g, t, c, q, he, hg, hv, ht, hu, hb, hn⟩ => ⟨g, t, c, q, he, hg, h _ _ _ (.inl rfl) hv, ht, h _ _ _ (.inr rfl) hu, Row.keep h hb, Row.keep h hn⟩
theorem Row.mono {B B' : Nat} {W : World} (h : B ≤ B') : ∀ {r : Rw} {p : Option Addr}, Row B W r p → Row B' W r p
  | .nil, _, hl => hl
  | .cons _ _ _, _, ⟨g, t, c, q, he, hg, hv, ht, hu, hb, hn⟩ => ⟨g, t, c, q, he, by omega, hv, by omega, hu, Row.mono h hb, Row.mono h hn⟩
theorem Row.grow {B B' : Nat} {A W : World} {r : Rw} {p : Option Addr} (h : Row B A r p) (hb : Below B A W) (hB : B ≤ B') : Row B' W r p := (h.below hb).mono hB
theorem Row.on {A W : World} {r : Rw} {p : Option Addr} (h : Row A.heap.size A r p) (hb : Below A.heap.size A W) : Row W.heap.size W r p := h.grow hb hb.size
theorem Tre.below {B : Nat} {A W : World} (h : Below B A W) : ∀ {t : Tr} {p : Option Addr}, Tre B A t p → Tre B W t p
  | none, _, hl => hl
  | some _, _, ⟨t, c, he, ht, hu, hb⟩ => ⟨t, c, he, ht, hu.below h ht, hb.below h⟩
theorem Tre.keep {B : Nat} {A W : World} (h : Keep A W) : ∀ {t : Tr} {p : Option Addr}, Tre B A t p → Tre B W t p
  | none, _, hl => hl
  | some _, _, ⟨t, c, he, ht, hu, hb⟩ => ⟨t, c, he, ht, h _ _ _ (.inr rfl) hu, hb.keep h⟩
theorem Tre.mono {B B' : Nat} {W : World} (h : B ≤ B') : ∀ {t : Tr} {p : Option Addr}, Tre B W t p → Tre B' W t p
  | none, _, hl => hl
  | some _, _, ⟨t, c, he, ht, hu, hb⟩ => ⟨t, c, he, by omega, hu, hb.mono h⟩
theorem Tre.grow {B B' : Nat} {A W : World} {t : Tr} {p : Option Addr} (h : Tre B A t p) (hb : Below B A W) (hB : B ≤ B') : Tre B' W t p := (h.below hb).mono hB
theorem Tre.on {A W : World} {t : Tr} {p : Option Addr} (h : Tre A.heap.size A t p) (hb : Below A.heap.size A W) : Tre W.heap.size W t p := h.grow hb hb.size

/-- a new row, of a tree and the trees behind it -/
theorem Row.mk {W : World} {g : Nat} {x : Int} {b n : Rw} {t q : Option Addr} (hg : hp.Blk W g tyR [.pointer t, .pointer q]) (ht : Tre W.heap.size W (some (x, b)) t) (hn : Row W.heap.size W n q) : Row W.heap.size W (.cons x b n) (some ⟨g, 0, none⟩) := by
  obtain ⟨h, c, rfl, hh, hu, hr⟩ := ht
  exact ⟨g, h, c, q, rfl, hg.lt, hg, hh, hu, hr, hn⟩
/-- a new tree -/
theorem Tre.mk {W : World} {g : Nat} {x : Int} {b : Rw} {c : Option Addr} (hg : hp.Blk W g tyT [.int .i64 x, .pointer c]) (hn : Row W.heap.size W b c) : Tre W.heap.size W (some (x, b)) (some ⟨g, 0, none⟩) :=
  ⟨g, c, rfl, hg.lt, hg, hn⟩

/-- how many trees a pointer's row has is told by the memory -/
theorem Row.one {B : Nat} {W : World} : ∀ {r s : Rw} {p : Option Addr}, Row B W r p → Row B W s p → many r = many s
  | .nil, .nil, _, _, _ => rfl
  | .nil, .cons _ _ _, _, h, ⟨_, _, _, _, he, _⟩ => by obtain rfl := h; cases he
  | .cons _ _ _, .nil, _, ⟨_, _, _, _, he, _⟩, h => by obtain rfl := h; cases he
  | .cons x b n, .cons y c m, _, ⟨g, t, c1, q, he, hg, hv, ht, hu, hb, hn⟩, ⟨g', t', c1', q', he', hg', hv', ht', hu', hb', hn'⟩ => by
    rw [he] at he'; cases he'
    unfold hp.Blk at hv hv'
    rw [hv] at hv'; simp at hv'
    obtain ⟨rfl, rfl⟩ := hv'
    simp [many, Row.one hn hn']

/-- a pointer to a tree of these numbers -/
def IsTr (w : World) (u : Value) (l : List Int) : Prop := ∃ p t, u = .pointer p ∧ Tre w.heap.size w t p ∧ TOk t ∧ (tnums t).Perm l
theorem IsTr.on {w w' : World} {u : Value} {l : List Int} (h : IsTr w u l) (hb : Below w.heap.size w w') : IsTr w' u l := by
  obtain ⟨p, t, hu, hn, hi⟩ := h
  exact ⟨p, t, hu, hn.on hb, hi⟩
theorem IsTr.perm {w : World} {u : Value} {l l' : List Int} (h : IsTr w u l) (hp : l.Perm l') : IsTr w u l' := by
  obtain ⟨p, t, hu, hn, hi, hl⟩ := h
  exact ⟨p, t, hu, hn, hi, hl.trans hp⟩
theorem IsTr.nil (w : World) : IsTr w (.pointer none) [] := ⟨none, none, rfl, rfl, trivial, List.Perm.refl _⟩
/-- a tree of one number -/
theorem IsTr.one {w : World} {g : Nat} {x : Int} (hg : hp.Blk w g tyT [.int .i64 x, .pointer none]) : IsTr w (.pointer (some ⟨g, 0, none⟩)) [x] :=
  ⟨_, some (x, .nil), rfl, Tre.mk hg rfl, ⟨by simp [nums], trivial⟩, List.Perm.refl _⟩
/-- a pointer to a row of these numbers -/
def IsRw (w : World) (u : Value) (l : List Int) : Prop := ∃ p r, u = .pointer p ∧ Row w.heap.size w r p ∧ Ok r ∧ (nums r).Perm l
theorem IsRw.on {w w' : World} {u : Value} {l : List Int} (h : IsRw w u l) (hb : Below w.heap.size w w') : IsRw w' u l := by
  obtain ⟨p, t, hu, hn, hi⟩ := h
  exact ⟨p, t, hu, hn.on hb, hi⟩
theorem IsRw.perm {w : World} {u : Value} {l l' : List Int} (h : IsRw w u l) (hp : l.Perm l') : IsRw w u l' := by
  obtain ⟨p, t, hu, hn, hi, hl⟩ := h
  exact ⟨p, t, hu, hn, hi, hl.trans hp⟩
theorem IsRw.nil (w : World) : IsRw w (.pointer none) [] := ⟨none, .nil, rfl, rfl, trivial, List.Perm.refl _⟩
theorem Ok.many {r : Rw} : many r ≤ (nums r).length := by
  induction r with
  | nil => simp [par.many, nums]
  | cons x b n _ ih => simp [par.many, nums]; omega

abbrev rv (p : Option Addr) (n : Nat) : Value := .agg #[.pointer p, .int .i64 n]

/-- a heap of these numbers, its trees below block B -/
def IsHeap (w : World) (B : Nat) (v : Value) (l : List Int) : Prop := ∃ p t, v = rv p l.length ∧ Tre B w t p ∧ TOk t ∧ (tnums t).Perm l ∧ ∀ x ∈ l, (Lit.int .i64 x).wf = true

section
variable {w w' : World} {B B' : Nat} {v : Value} {l : List Int}
theorem IsHeap.below (h : IsHeap w B v l) (hb : Below B w w') : IsHeap w' B v l := by
  obtain ⟨p, r, hv, hc, hw⟩ := h
  exact ⟨p, r, hv, hc.below hb, hw⟩
theorem IsHeap.keep (h : IsHeap w B v l) (hb : Keep w w') : IsHeap w' B v l := by
  obtain ⟨p, r, hv, hc, hw⟩ := h
  exact ⟨p, r, hv, hc.keep hb, hw⟩
theorem IsHeap.mono (h : IsHeap w B v l) (hB : B ≤ B') : IsHeap w B' v l := by
  obtain ⟨p, r, hv, hc, hw⟩ := h
  exact ⟨p, r, hv, hc.mono hB, hw⟩
theorem IsHeap.on (h : IsHeap w w.heap.size v l) (hb : Below w.heap.size w w') : IsHeap w' w'.heap.size v l := (h.below hb).mono hb.size
theorem IsHeap.wf (h : IsHeap w B v l) : ∀ x ∈ l, (Lit.int .i64 x).wf = true := by obtain ⟨_, _, _, _, _, _, hw⟩ := h; exact hw
theorem IsHeap.nil (w : World) (B : Nat) : IsHeap w B (rv none 0) [] := ⟨none, none, rfl, rfl, trivial, by simp [tnums], by simp⟩
theorem IsHeap.val (h : IsHeap w B v l) : ∃ p, v = rv p l.length := by obtain ⟨p, _, hv, _⟩ := h; exact ⟨p, hv⟩
end
theorem IsTr.heap {w : World} {p : Option Addr} {l l' : List Int} (h : IsTr w (.pointer p) l) (hp : l.Perm l') (hw : ∀ x ∈ l', (Lit.int .i64 x).wf = true) : IsHeap w w.heap.size (rv p l'.length) l' := by
  obtain ⟨q, t, hu, hn, hi, hl⟩ := h
  cases hu
  exact ⟨p, t, rfl, hn, hi, hl.trans hp, hw⟩
theorem wrap_small {n : Int} (h : 0 ≤ n) (h' : n ≤ 9223372036854775807) : wrap64 n = n := IntWalk.wrap64_in _ ⟨by omega, by omega⟩

abbrev tyH : TypeId := 26

/-- the least one is the first one of the list, rising -/
theorem least_first {x z : Int} {l n tl : List Int} (hs : srt l = z :: tl) (hp : n.Perm l) (hx : x ∈ n) (hl : ∀ y ∈ n, x ≤ y) : x = z := by
  have h1 := srt_rises l
  rw [hs] at h1
  have hz : z ∈ l := (srt_perm l).mem_iff.1 (by rw [hs]; simp)
  have h2 := hl z (hp.mem_iff.2 hz)
  have h3 : x ∈ z :: tl := by
    rw [← hs]
    exact (srt_perm l).mem_iff.2 (hp.mem_iff.1 hx)
  rcases List.mem_cons.1 h3 with h | h
  · exact h
  · have := (List.pairwise_cons.1 h1).1 x h
    omega
/-- a tree of some numbers: its top one, and the others -/
theorem top_of {l tl : List Int} {z : Int} {t : Tr} (hs : srt l = z :: tl) (hp : (tnums t).Perm l) (ho : TOk t) : ∃ b, t = some (z, b) ∧ (nums b).Perm tl ∧ Ok b := by
  rcases t with _ | ⟨x, b⟩
  · have h1 := hp.length_eq
    have h2 := srt_len l
    rw [hs] at h2
    simp [tnums] at h1 h2
    omega
  · have hx := least_first hs hp (x := x) (by simp [tnums]) ho.top
    subst hx
    refine ⟨b, rfl, ?_, ho.2⟩
    refine List.Perm.cons_inv (a := x) ?_
    rw [← hs]
    exact hp.trans (srt_perm l).symm

/-- a heap goes into a variable of the call's own -/
theorem stored {w W : World} {g : Nat} {a b : Value} {p : Option Addr} {l : List Int} {k : Int} (hk : k = (l.length : Int)) (hR : hp.Blk W g tyH [a, b]) (hg : w.heap.size ≤ g) (hb : Below w.heap.size w W) (h : IsHeap W W.heap.size (rv p l.length) l) :
    ∃ W', (W.setCell ⟨g, 0, none⟩ (.pointer p)).setCell ⟨g, 1, none⟩ (.int .i64 k) = W' ∧ hp.Blk W' g tyH [.pointer p, .int .i64 l.length] ∧ IsHeap W' W'.heap.size (rv p l.length) l ∧ Below w.heap.size w W' ∧ Keep W W' ∧ W'.heap.size = W.heap.size ∧ (∀ b t cs, b ≠ g → hp.Blk W b t cs → hp.Blk W' b t cs) := by
  subst hk
  have hK := (Keep.of_set (o := 0) hR (by decide) (by decide) (.pointer p)).trans (Keep.of_set (o := 1) (hR.set 0 (.pointer p)) (by decide) (by decide) (.int .i64 l.length))
  exact ⟨_, rfl, hR.set2 _ _, (h.keep hK).mono (by simp), (hb.setCell (by simpa using hg) _).setCell (by simpa using hg) _, hK, by simp, fun b t cs hne hk => (hk.other hne _).other hne _⟩
end Go.Proofs.Ytnfoadhhgonfkaa.par
