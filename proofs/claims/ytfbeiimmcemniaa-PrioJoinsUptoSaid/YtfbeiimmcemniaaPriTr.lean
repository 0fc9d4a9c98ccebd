/- Finger trees: nodes, levels, their numbers; both in memory. -/
import Derived.Test.YtfbeiimmcemniaaChecked
import Derived.Test.YtfbeiimmcemniaaHeap
import Derived.Test.YtfbeiimmcemniaaReg
import Derived.Test.YtfbeiimmcemniaaRel
import Derived.Test.YtfbeiimmcemniaaRws
import Derived.Test.YtfbeiimmcemniaaSame
import Derived.WalkKit
import Derived.BigQuiet
import Derived.Deep.QuietTactic
import Derived.StillTailTactics
import Derived.WalkSmall
import Derived.RegionTactic
import Derived.BigRegion
import Derived.Lib.Hide
import Derived.Laws.Slices
namespace Go.Proofs.Ytfbeiimmcemniaa.pri
open Go Go.RowKit

/-- the greatest rank -/
def topOf : List (Int × Int) → Int
  | [] => -9223372036854775808
  | x :: l => max x.1 (topOf l)
abbrev mv (n r : Int) : Value := .agg #[.int .i64 n, .int .i64 r]
abbrev mvOf (n : Nat) (l : List (Int × Int)) : Value := mv n (topOf l)

/-- a number, or two or three nodes -/
inductive Nd
  | leaf (x : (Int × Int))
  | two (a b : Nd)
  | tri (a b c : Nd)

/-- the numbers, in order -/
def Nd.nums : Nd → List (Int × Int)
  | .leaf x => [x]
  | .two a b => a.nums ++ b.nums
  | .tri a b c => a.nums ++ b.nums ++ c.nums
def Nd.parts : Nd → List Nd
  | .leaf _ => []
  | .two a b => [a, b]
  | .tri a b c => [a, b, c]
/-- all of one height; the numbers are ints -/
def Nd.Ht : Nat → Nd → Prop
  | 0, .leaf x => rws.WfP x
  | k + 1, .two a b => Nd.Ht k a ∧ Nd.Ht k b
  | k + 1, .tri a b c => Nd.Ht k a ∧ Nd.Ht k b ∧ Nd.Ht k c
  | _, _ => False
def flat (l : List Nd) : List (Int × Int) := (l.map Nd.nums).flatten
theorem flat_nil : flat [] = [] := rfl
theorem flat_cons (x : Nd) (l : List Nd) : flat (x :: l) = x.nums ++ flat l := by simp [flat]
theorem flat_append (a b : List Nd) : flat (a ++ b) = flat a ++ flat b := by simp [flat]
theorem flat_one (x : Nd) : flat [x] = x.nums := by simp [flat]
/-- all of height k -/
def Hts (k : Nat) (l : List Nd) : Prop := ∀ x ∈ l, Nd.Ht k x
theorem Hts.append {k : Nat} {a b : List Nd} (ha : Hts k a) (hb : Hts k b) : Hts k (a ++ b) := fun x hx => (List.mem_append.1 hx).elim (ha x) (hb x)
theorem Hts.one {k : Nat} {x : Nd} (h : Nd.Ht k x) : Hts k [x] := fun y hy => by
  obtain rfl : y = x := by simpa using hy
  exact h
theorem Hts.nil (k : Nat) : Hts k [] := fun y hy => by cases hy
theorem Hts.head {k : Nat} {x : Nd} {l : List Nd} (h : Hts k (x :: l)) : Nd.Ht k x := h x (List.mem_cons_self ..)
theorem Hts.tail {k : Nat} {x : Nd} {l : List Nd} (h : Hts k (x :: l)) : Hts k l := fun y hy => h y (List.mem_cons_of_mem _ hy)
theorem Hts.take {k n : Nat} {l : List Nd} (h : Hts k l) : Hts k (l.take n) := fun y hy => h y (List.mem_of_mem_take hy)
theorem Hts.drop {k n : Nat} {l : List Nd} (h : Hts k l) : Hts k (l.drop n) := fun y hy => h y (List.mem_of_mem_drop hy)
theorem Hts.cons {k : Nat} {x : Nd} {l : List Nd} (h : Nd.Ht k x) (hl : Hts k l) : Hts k (x :: l) := fun y hy => (List.mem_cons.1 hy).elim (fun e => e ▸ h) (hl y)
theorem Nd.Ht.parts {k : Nat} : ∀ {n : Nd}, Nd.Ht (k + 1) n → Hts k n.parts ∧ flat n.parts = n.nums ∧ 2 ≤ n.parts.length ∧ n.parts.length ≤ 3
  | .leaf _, h => h.elim
  | .two _ _, h => ⟨Hts.cons h.1 (Hts.one h.2), by simp [Nd.parts, Nd.nums, flat], by simp [Nd.parts], by simp [Nd.parts]⟩
  | .tri _ _ _, h => ⟨Hts.cons h.1 (Hts.cons h.2.1 (Hts.one h.2.2)), by simp [Nd.parts, Nd.nums, flat], by simp [Nd.parts], by simp [Nd.parts]⟩
theorem Nd.Ht.size : ∀ {k : Nat} {n : Nd}, Nd.Ht k n → 2 ^ k ≤ n.nums.length
  | 0, .leaf _, _ => by simp [Nd.nums]
  | k + 1, .two a b, h => by have h1 := Nd.Ht.size h.1; have h2 := Nd.Ht.size h.2; simp [Nd.nums, Nat.pow_succ]; omega
  | k + 1, .tri a b c, h => by have h1 := Nd.Ht.size h.1; have h2 := Nd.Ht.size h.2.1; simp [Nd.nums, Nat.pow_succ]; omega
theorem Nd.Ht.pos {k : Nat} {n : Nd} (h : Nd.Ht k n) : 1 ≤ n.nums.length := Nat.le_trans (Nat.one_le_two_pow) h.size
theorem Nd.Ht.wf : ∀ {k : Nat} {n : Nd}, Nd.Ht k n → ∀ x ∈ n.nums, rws.WfP x
  | 0, .leaf y, h, x, hx => by (obtain rfl : x = y := (by simpa [Nd.nums] using hx)); exact h
  | k + 1, .two a b, h, x, hx => (List.mem_append.1 hx).elim (Nd.Ht.wf h.1 x) (Nd.Ht.wf h.2 x)
  | k + 1, .tri a b c, h, x, hx => by
    rcases List.mem_append.1 hx with hx | hx
    · rcases List.mem_append.1 hx with hx | hx
      · exact Nd.Ht.wf h.1 x hx
      · exact Nd.Ht.wf h.2.1 x hx
    · exact Nd.Ht.wf h.2.2 x hx
theorem Hts.wf {k : Nat} : ∀ {l : List Nd}, Hts k l → ∀ x ∈ flat l, rws.WfP x
  | [], _, x, hx => by cases hx
  | n :: l, h, x, hx => by
    rw [flat_cons] at hx
    rcases List.mem_append.1 hx with hx | hx
    · exact h.head.wf x hx
    · exact h.tail.wf x hx
theorem Hts.size {k : Nat} : ∀ {l : List Nd}, Hts k l → l.length * 2 ^ k ≤ (flat l).length
  | [], _ => by simp
  | n :: l, h => by
    have h1 := h.head.size
    have h2 := h.tail.size
    rw [flat_cons, List.length_append, List.length_cons, Nat.succ_mul]
    omega

/-- the levels from one on -/
inductive Lv
  | nil
  | one (x : Nd)
  | deep (l : List Nd) (i : Lv) (r : List Nd)
def Lv.nums : Lv → List (Int × Int)
  | .nil => []
  | .one x => x.nums
  | .deep l i r => flat l ++ i.nums ++ flat r
/-- from one to four on both sides, or one alone -/
def Lv.Ok : Nat → Lv → Prop
  | _, .nil => True
  | k, .one x => Nd.Ht k x
  | k, .deep l i r => (1 ≤ l.length ∧ l.length ≤ 4 ∧ Hts k l) ∧ (1 ≤ r.length ∧ r.length ≤ 4 ∧ Hts k r) ∧ Lv.Ok (k + 1) i
theorem Lv.Ok.wf : ∀ {k : Nat} {t : Lv}, Lv.Ok k t → ∀ x ∈ t.nums, rws.WfP x
  | _, .nil, _, x, hx => by cases hx
  | _, .one n, h, x, hx => Nd.Ht.wf (n := n) h x hx
  | k, .deep l i r, h, x, hx => by
    obtain ⟨⟨_, _, h1⟩, ⟨_, _, h2⟩, h3⟩ := h
    rcases List.mem_append.1 hx with hx | hx
    · rcases List.mem_append.1 hx with hx | hx
      · exact h1.wf x hx
      · exact Lv.Ok.wf h3 x hx
    · exact h2.wf x hx

/-! ### in memory: Q says which blocks they may lie in -/
def Any (_ : Nat) : Prop := True

/-- a slice value that reads as these pointers -/
def IsPs (Q : Nat → Prop) (W : World) (v : Value) (ps : List (Option Addr)) : Prop :=
  ∃ a cap, v = .slice a ps.length cap ∧ ((a = none → cap = 0) ∧ ps.length ≤ cap) ∧
    (0 < ps.length → ∃ b off, a = some ⟨b, off, none⟩ ∧ (Q b ∧ ∃ cs, hp.Blk W b 61 cs) ∧ b < W.heap.size ∧ ∀ k, k < ps.length → W.cell? ⟨b, off + k, none⟩ = some (.pointer (ps.getD k none)))

section
variable {Q Q' : Nat → Prop} {w w' : World} {v : Value} {ps : List (Option Addr)}
theorem IsPs.on (h : IsPs Q w v ps) (hb : Below w.heap.size w w') : IsPs Q w' v ps := by
  obtain ⟨a, cap, hv, hn, hc⟩ := h
  refine ⟨a, cap, hv, hn, fun hl => ?_⟩
  obtain ⟨b, off, ha, hq, hbB, hcell⟩ := hc hl
  exact ⟨b, off, ha, ⟨hq.1, let ⟨cs, h⟩ := hq.2; ⟨cs, h.on hb⟩⟩, by have := hb.size; omega, fun k hk => (hb.cell (p := ⟨b, off + k, none⟩) hbB).trans (hcell k hk)⟩
theorem IsPs.set (h : IsPs Q w v ps) {a : Addr} (ha : ¬ Q a.block) (u : Value) : IsPs Q (w.setCell a u) v ps := by
  obtain ⟨p, cap, hv, hn, hc⟩ := h
  refine ⟨p, cap, hv, hn, fun hl => ?_⟩
  obtain ⟨b, off, hp, hq, hbB, hcell⟩ := hc hl
  have hne : b ≠ a.block := fun e => ha (e ▸ hq.1)
  refine ⟨b, off, hp, ⟨hq.1, let ⟨cs, h⟩ := hq.2; ⟨cs, h.other hne u⟩⟩, by simpa [World.setCell] using hbB, fun k hk => ?_⟩
  rw [← hcell k hk]
  have := Below.heap_setCell w a u b hne
  simp only [World.cell?, this]
theorem IsPs.imp (h : IsPs Q w v ps) (hq : ∀ b, Q b → Q' b) : IsPs Q' w v ps := by
  obtain ⟨a, cap, hv, hn, hc⟩ := h
  refine ⟨a, cap, hv, hn, fun hl => ?_⟩
  obtain ⟨b, off, ha, hq', hbB, hcell⟩ := hc hl
  exact ⟨b, off, ha, ⟨hq _ hq'.1, hq'.2⟩, hbB, hcell⟩
theorem IsPs.nil (Q : Nat → Prop) (w : World) : IsPs Q w (.slice none 0 0) [] := ⟨none, 0, rfl, ⟨fun _ => rfl, by simp⟩, by simp⟩
theorem IsPs.one {p q : Option Addr} (h : IsPs Q w v [p]) (h' : IsPs Q' w v [q]) : p = q := by
  obtain ⟨a, cap, rfl, -, hc⟩ := h
  obtain ⟨a', cap', hv, -, hc'⟩ := h'
  obtain ⟨b, off, rfl, -, -, h0⟩ := hc (by simp)
  obtain ⟨b', off', rfl, -, -, h0'⟩ := hc' (by simp)
  cases hv
  have e := (h0 0 (by simp)).symm.trans (h0' 0 (by simp))
  simpa using e
end

abbrev ncs (l : List (Int × Int)) (x : (Int × Int)) (v : Value) : List Value := [.int .i64 (l.length : Nat), .int .i64 (topOf l), .int .i64 x.1, .int .i64 x.2, v]
abbrev lcs (l : List (Int × Int)) (u v : Value) (q : Option Addr) : List Value := [.int .i64 (l.length : Nat), .int .i64 (topOf l), u, v, .pointer q]

/-- a pointer to this node -/
def Nod (Q : Nat → Prop) (W : World) : Nd → Option Addr → Prop
  | .leaf x, p => ∃ g, p = some ⟨g, 0, none⟩ ∧ Q g ∧ hp.Blk W g 69 (ncs [x] x (.slice none 0 0))
  | .two a b, p => ∃ g v pa pb, p = some ⟨g, 0, none⟩ ∧ Q g ∧ hp.Blk W g 69 (ncs (a.nums ++ b.nums) (0, 0) v) ∧ IsPs Q W v [pa, pb] ∧ Nod Q W a pa ∧ Nod Q W b pb
  | .tri a b c, p => ∃ g v pa pb pc, p = some ⟨g, 0, none⟩ ∧ Q g ∧ hp.Blk W g 69 (ncs (a.nums ++ b.nums ++ c.nums) (0, 0) v) ∧ IsPs Q W v [pa, pb, pc] ∧ Nod Q W a pa ∧ Nod Q W b pb ∧ Nod Q W c pc

/-- pointers to these nodes -/
def Nods (Q : Nat → Prop) (W : World) : List Nd → List (Option Addr) → Prop
  | [], [] => True
  | n :: l, p :: ps => Nod Q W n p ∧ Nods Q W l ps
  | _, _ => False
/-- a slice of these nodes -/
def Row (Q : Nat → Prop) (W : World) (v : Value) (l : List Nd) : Prop := ∃ ps, IsPs Q W v ps ∧ Nods Q W l ps
/-- a pointer to these levels -/
def Lev (Q : Nat → Prop) (W : World) : Lv → Option Addr → Prop
  | .nil, p => p = none
  | .one x, p => ∃ g v, p = some ⟨g, 0, none⟩ ∧ Q g ∧ hp.Blk W g 74 (lcs x.nums v (.slice none 0 0) none) ∧ Row Q W v [x]
  | .deep l i r, p => ∃ g u v q, p = some ⟨g, 0, none⟩ ∧ Q g ∧ hp.Blk W g 74 (lcs (flat l ++ i.nums ++ flat r) u v q) ∧ Row Q W u l ∧ Row Q W v r ∧ Lev Q W i q

section
variable {Q Q' : Nat → Prop} {w w' : World} {v : Value}
theorem Nod.on (hb : Below w.heap.size w w') : ∀ {n : Nd} {p : Option Addr}, Nod Q w n p → Nod Q w' n p
  | .leaf _, _, ⟨g, e, hq, hk⟩ => ⟨g, e, hq, hk.on hb⟩
  | .two _ _, _, ⟨g, v, pa, pb, e, hq, hk, hv, ha, hc⟩ => ⟨g, v, pa, pb, e, hq, hk.on hb, hv.on hb, Nod.on hb ha, Nod.on hb hc⟩
  | .tri _ _ _, _, ⟨g, v, pa, pb, pc, e, hq, hk, hv, ha, hc, hd⟩ => ⟨g, v, pa, pb, pc, e, hq, hk.on hb, hv.on hb, Nod.on hb ha, Nod.on hb hc, Nod.on hb hd⟩
theorem Nod.set {a : Addr} (hn : ¬ Q a.block) (u : Value) : ∀ {n : Nd} {p : Option Addr}, Nod Q w n p → Nod Q (w.setCell a u) n p
  | .leaf _, _, ⟨g, e, hq, hk⟩ => ⟨g, e, hq, hk.other (fun e' => hn (e' ▸ hq)) _⟩
  | .two _ _, _, ⟨g, v, pa, pb, e, hq, hk, hv, ha, hc⟩ => ⟨g, v, pa, pb, e, hq, hk.other (fun e' => hn (e' ▸ hq)) _, hv.set hn u, Nod.set hn u ha, Nod.set hn u hc⟩
  | .tri _ _ _, _, ⟨g, v, pa, pb, pc, e, hq, hk, hv, ha, hc, hd⟩ => ⟨g, v, pa, pb, pc, e, hq, hk.other (fun e' => hn (e' ▸ hq)) _, hv.set hn u, Nod.set hn u ha, Nod.set hn u hc, Nod.set hn u hd⟩
theorem Nod.imp (h : ∀ b, Q b → Q' b) : ∀ {n : Nd} {p : Option Addr}, Nod Q w n p → Nod Q' w n p
  | .leaf _, _, ⟨g, e, hq, hk⟩ => ⟨g, e, h _ hq, hk⟩
  | .two _ _, _, ⟨g, v, pa, pb, e, hq, hk, hv, ha, hc⟩ => ⟨g, v, pa, pb, e, h _ hq, hk, hv.imp h, Nod.imp h ha, Nod.imp h hc⟩
  | .tri _ _ _, _, ⟨g, v, pa, pb, pc, e, hq, hk, hv, ha, hc, hd⟩ => ⟨g, v, pa, pb, pc, e, h _ hq, hk, hv.imp h, Nod.imp h ha, Nod.imp h hc, Nod.imp h hd⟩
/-- a node's block -/
theorem Nod.blk : ∀ {n : Nd} {p : Option Addr}, Nod Q w n p → ∃ g x v, p = some ⟨g, 0, none⟩ ∧ g < w.heap.size ∧ hp.Blk w g 69 (ncs n.nums x v) ∧ Row Q w v n.parts
  | .leaf x, _, ⟨g, e, _, hk⟩ => ⟨g, x, _, e, hk.lt, hk, [], IsPs.nil _ _, trivial⟩
  | .two _ _, _, ⟨g, v, pa, pb, e, _, hk, hv, ha, hc⟩ => ⟨g, (0, 0), v, e, hk.lt, hk, [pa, pb], hv, ha, hc, trivial⟩
  | .tri _ _ _, _, ⟨g, v, pa, pb, pc, e, _, hk, hv, ha, hc, hd⟩ => ⟨g, (0, 0), v, e, hk.lt, hk, [pa, pb, pc], hv, ha, hc, hd, trivial⟩
theorem Nods.map (f : ∀ {n : Nd} {p : Option Addr}, Nod Q w n p → Nod Q' w' n p) : ∀ {l : List Nd} {ps : List (Option Addr)}, Nods Q w l ps → Nods Q' w' l ps
  | [], [], _ => trivial
  | _ :: _, _ :: _, ⟨h, hs⟩ => ⟨f h, Nods.map f hs⟩
  | [], _ :: _, h => h
  | _ :: _, [], h => h
theorem Nods.len : ∀ {l : List Nd} {ps : List (Option Addr)}, Nods Q w l ps → ps.length = l.length
  | [], [], _ => rfl
  | _ :: _, _ :: _, ⟨_, hs⟩ => by simp [Nods.len hs]
  | [], _ :: _, h => h.elim
  | _ :: _, [], h => h.elim
theorem Nods.append : ∀ {l l' : List Nd} {ps ps' : List (Option Addr)}, Nods Q w l ps → Nods Q w l' ps' → Nods Q w (l ++ l') (ps ++ ps')
  | [], _, [], _, _, h => h
  | _ :: _, _, _ :: _, _, ⟨h, hs⟩, h' => ⟨h, Nods.append hs h'⟩
  | [], _, _ :: _, _, h, _ => h.elim
  | _ :: _, _, [], _, h, _ => h.elim
theorem Nods.at : ∀ {l : List Nd} {ps : List (Option Addr)}, Nods Q w l ps → ∀ (k : Nat) (h : k < l.length), Nod Q w l[k] (ps.getD k none)
  | _ :: _, _ :: _, ⟨h, _⟩, 0, _ => by simpa using h
  | _ :: _, _ :: _, ⟨_, hs⟩, k + 1, hk => by simpa using Nods.at hs k (by simpa using hk)
  | [], _, _, _, hk => absurd hk (by simp)
  | _ :: _, [], h, _, _ => h.elim
theorem Nods.take : ∀ {l : List Nd} {ps : List (Option Addr)}, Nods Q w l ps → ∀ k, Nods Q w (l.take k) (ps.take k)
  | [], [], _, k => by simp; trivial
  | _ :: _, _ :: _, _, 0 => trivial
  | _ :: _, _ :: _, ⟨h, hs⟩, k + 1 => ⟨h, Nods.take hs k⟩
  | [], _ :: _, h, _ => h.elim
  | _ :: _, [], h, _ => h.elim
theorem Nods.drop : ∀ {l : List Nd} {ps : List (Option Addr)}, Nods Q w l ps → ∀ k, Nods Q w (l.drop k) (ps.drop k)
  | [], [], _, k => by simp; trivial
  | _ :: _, _ :: _, h, 0 => h
  | _ :: _, _ :: _, ⟨_, hs⟩, k + 1 => Nods.drop hs k
  | [], _ :: _, h, _ => h.elim
  | _ :: _, [], h, _ => h.elim
theorem IsPs.sliced {a : Option Addr} {n c : Nat} {ps : List (Option Addr)} (h : IsPs Q w (.slice a n c) ps) {i j : Nat} (hij : i ≤ j) (hj : j ≤ ps.length) : IsPs Q w (Go.sliced a i j c 1) ((ps.take j).drop i) := by
  obtain ⟨a', cap, hv, hn, hc⟩ := h
  cases hv
  have hl : ((ps.take j).drop i).length = j - i := by simp; omega
  refine ⟨if c = i then a else a.map (·.add (i * 1)), c - i, by rw [hl]; rfl, ⟨fun h => ?_, by rw [hl]; omega⟩, fun hp => ?_⟩
  · split at h
    · omega
    · rw [hn.1 (by cases a <;> simp_all)]; omega
  · rw [hl] at hp
    obtain ⟨b, off, rfl, hq, hb, hd⟩ := hc (by omega)
    refine ⟨b, off + i, by rw [if_neg (by omega)]; simp [Addr.add], hq, hb, fun k hk => ?_⟩
    rw [hl] at hk
    have := hd (i + k) (by omega)
    rw [show off + i + k = off + (i + k) by omega, this]
    have h1 : i + k < ps.length := by omega
    have h2 : k < j - i := hk
    simp [List.getElem?_drop, h1, show i + k < j by omega]
theorem Row.sliced {a : Option Addr} {n c : Nat} {l : List Nd} (h : Row Q w (.slice a n c) l) {i j : Nat} (hij : i ≤ j) (hj : j ≤ l.length) : Row Q w (Go.sliced a i j c 1) ((l.take j).drop i) := by
  obtain ⟨ps, h1, h2⟩ := h
  have := h2.len
  exact ⟨_, h1.sliced hij (by omega), (h2.take j).drop i⟩
theorem Row.from {a : Option Addr} {n c : Nat} {l : List Nd} (h : Row Q w (.slice a n c) l) {i : Nat} (hi : i ≤ l.length) : Row Q w (Go.sliced a i l.length c 1) (l.drop i) := by
  have := h.sliced hi (Nat.le_refl _)
  rwa [List.take_length] at this
theorem Row.to {a : Option Addr} {n c : Nat} {l : List Nd} (h : Row Q w (.slice a n c) l) {j : Nat} (hj : j ≤ l.length) : Row Q w (Go.sliced a 0 j c 1) (l.take j) := h.sliced (Nat.zero_le _) hj
theorem Row.on {l : List Nd} (h : Row Q w v l) (hb : Below w.heap.size w w') : Row Q w' v l := let ⟨ps, h1, h2⟩ := h; ⟨ps, h1.on hb, h2.map (Nod.on hb)⟩
theorem Row.set {l : List Nd} (h : Row Q w v l) {a : Addr} (hn : ¬ Q a.block) (u : Value) : Row Q (w.setCell a u) v l := let ⟨ps, h1, h2⟩ := h; ⟨ps, h1.set hn u, h2.map (Nod.set hn u)⟩
theorem Row.imp {l : List Nd} (h : Row Q w v l) (hq : ∀ b, Q b → Q' b) : Row Q' w v l := let ⟨ps, h1, h2⟩ := h; ⟨ps, h1.imp hq, h2.map (Nod.imp hq)⟩
theorem Row.nil (Q : Nat → Prop) (w : World) : Row Q w (.slice none 0 0) [] := ⟨[], IsPs.nil _ _, trivial⟩
/-- the value; each of its cells is a pointer to its node -/
theorem Row.cells {l : List Nd} (h : Row Q w v l) : ∃ a cap, v = .slice a l.length cap ∧ (a = none → cap = 0) ∧ l.length ≤ cap ∧
    (0 < l.length → ∃ b off, a = some ⟨b, off, none⟩ ∧ Q b ∧ b < w.heap.size ∧ ∀ k n, l[k]? = some n → ∃ p, w.cell? ⟨b, off + k, none⟩ = some (.pointer p) ∧ Nod Q w n p) := by
  obtain ⟨ps, ⟨a, cap, rfl, ⟨hn, hm⟩, hc⟩, hs⟩ := h
  have hl := hs.len
  rw [hl] at hm hc
  refine ⟨a, cap, by rw [hl], hn, hm, fun hp => ?_⟩
  obtain ⟨b, off, ha, hq, hb, hcell⟩ := hc hp
  exact ⟨b, off, ha, hq.1, hb, fun k n hk => by
    obtain ⟨hlt, rfl⟩ := List.getElem?_eq_some_iff.1 hk
    exact ⟨_, hcell k hlt, hs.at k hlt⟩⟩
theorem Lev.on (hb : Below w.heap.size w w') : ∀ {t : Lv} {p : Option Addr}, Lev Q w t p → Lev Q w' t p
  | .nil, _, h => h
  | .one _, _, ⟨g, v, e, hq, hk, hr⟩ => ⟨g, v, e, hq, hk.on hb, hr.on hb⟩
  | .deep _ _ _, _, ⟨g, u, v, q, e, hq, hk, hl, hr, hi⟩ => ⟨g, u, v, q, e, hq, hk.on hb, hl.on hb, hr.on hb, Lev.on hb hi⟩
theorem Lev.set {a : Addr} (hn : ¬ Q a.block) (c : Value) : ∀ {t : Lv} {p : Option Addr}, Lev Q w t p → Lev Q (w.setCell a c) t p
  | .nil, _, h => h
  | .one _, _, ⟨g, v, e, hq, hk, hr⟩ => ⟨g, v, e, hq, hk.other (fun e' => hn (e' ▸ hq)) _, hr.set hn c⟩
  | .deep _ _ _, _, ⟨g, u, v, q, e, hq, hk, hl, hr, hi⟩ => ⟨g, u, v, q, e, hq, hk.other (fun e' => hn (e' ▸ hq)) _, hl.set hn c, hr.set hn c, Lev.set hn c hi⟩
theorem Lev.imp (h : ∀ b, Q b → Q' b) : ∀ {t : Lv} {p : Option Addr}, Lev Q w t p → Lev Q' w t p
  | .nil, _, h => h
  | .one _, _, ⟨g, v, e, hq, hk, hr⟩ => ⟨g, v, e, h _ hq, hk, hr.imp h⟩
  | .deep _ _ _, _, ⟨g, u, v, q, e, hq, hk, hl, hr, hi⟩ => ⟨g, u, v, q, e, h _ hq, hk, hl.imp h, hr.imp h, Lev.imp h hi⟩
end

/-! ### values -/
/-- a pointer to a node of this height with these numbers -/
def IsN (Q : Nat → Prop) (W : World) (u : Value) (k : Nat) (l : List (Int × Int)) : Prop := ∃ p n, u = .pointer p ∧ Nod Q W n p ∧ Nd.Ht k n ∧ n.nums = l
/-- a slice of c nodes of this height with these numbers -/
def IsR (Q : Nat → Prop) (W : World) (u : Value) (k c : Nat) (l : List (Int × Int)) : Prop := ∃ ns, Row Q W u ns ∧ Hts k ns ∧ ns.length = c ∧ flat ns = l
/-- a pointer to levels from height k on with these numbers -/
def IsL (Q : Nat → Prop) (W : World) (u : Value) (k : Nat) (l : List (Int × Int)) : Prop := ∃ p t, u = .pointer p ∧ Lev Q W t p ∧ Lv.Ok k t ∧ t.nums = l
section
variable {Q Q' : Nat → Prop} {w w' : World} {u : Value} {k c : Nat} {l : List (Int × Int)}
theorem IsN.on (h : IsN Q w u k l) (hb : Below w.heap.size w w') : IsN Q w' u k l := let ⟨p, n, e, h1, h2⟩ := h; ⟨p, n, e, h1.on hb, h2⟩
theorem IsN.set (h : IsN Q w u k l) {a : Addr} (hn : ¬ Q a.block) (v : Value) : IsN Q (w.setCell a v) u k l := let ⟨p, n, e, h1, h2⟩ := h; ⟨p, n, e, h1.set hn v, h2⟩
theorem IsN.imp (h : IsN Q w u k l) (hq : ∀ b, Q b → Q' b) : IsN Q' w u k l := let ⟨p, n, e, h1, h2⟩ := h; ⟨p, n, e, h1.imp hq, h2⟩
theorem IsR.on (h : IsR Q w u k c l) (hb : Below w.heap.size w w') : IsR Q w' u k c l := let ⟨ns, h1, h2⟩ := h; ⟨ns, h1.on hb, h2⟩
theorem IsR.set (h : IsR Q w u k c l) {a : Addr} (hn : ¬ Q a.block) (v : Value) : IsR Q (w.setCell a v) u k c l := let ⟨ns, h1, h2⟩ := h; ⟨ns, h1.set hn v, h2⟩
theorem IsR.imp (h : IsR Q w u k c l) (hq : ∀ b, Q b → Q' b) : IsR Q' w u k c l := let ⟨ns, h1, h2⟩ := h; ⟨ns, h1.imp hq, h2⟩
theorem IsL.on (h : IsL Q w u k l) (hb : Below w.heap.size w w') : IsL Q w' u k l := let ⟨p, n, e, h1, h2⟩ := h; ⟨p, n, e, h1.on hb, h2⟩
theorem IsL.set (h : IsL Q w u k l) {a : Addr} (hn : ¬ Q a.block) (v : Value) : IsL Q (w.setCell a v) u k l := let ⟨p, n, e, h1, h2⟩ := h; ⟨p, n, e, h1.set hn v, h2⟩
theorem IsL.imp (h : IsL Q w u k l) (hq : ∀ b, Q b → Q' b) : IsL Q' w u k l := let ⟨p, n, e, h1, h2⟩ := h; ⟨p, n, e, h1.imp hq, h2⟩
theorem IsL.nil (Q : Nat → Prop) (w : World) (k : Nat) : IsL Q w (.pointer none) k [] := ⟨none, .nil, rfl, rfl, trivial, rfl⟩
end
end Go.Proofs.Ytfbeiimmcemniaa.pri
