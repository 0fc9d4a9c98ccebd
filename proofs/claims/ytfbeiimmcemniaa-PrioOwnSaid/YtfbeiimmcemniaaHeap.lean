/- Small laws on blocks of cells and on worlds that agree below a block. -/
import Derived.OneCell
import Derived.WalkSmall
import Derived.WalkKit
import Derived.Laws.AppendOwnNone
import Derived.OwnWalk
namespace Go.Proofs.Ytfbeiimmcemniaa.hp
open Go Go.RowKit

theorem bcell {W w1 : World} {B : Nat} (hb : Below B W w1) : (∀ b o, b < B → w1.cell? ⟨b, o, none⟩ = W.cell? ⟨b, o, none⟩) ∧ (∀ b o, b < B → w1.frozen? ⟨b, o, none⟩ = W.frozen? ⟨b, o, none⟩) :=
  ⟨fun b o h => hb.cell (p := ⟨b, o, none⟩) h, fun b o h => hb.frozen (p := ⟨b, o, none⟩) h⟩

/-- a whole block, not frozen -/
def Blk (w : World) (g : Nat) (t : TypeId) (cs : List Value) : Prop := w.heap[g]? = some (.cells cs.toArray t (0, 0))

section
variable {w w' : World} {g : Nat} {t : TypeId} {cs : List Value}
theorem Blk.cell (h : Blk w g t cs) (j : Nat) : w.cell? ⟨g, j, none⟩ = cs[j]? := by unfold Blk at h; simp [World.cell?, h]
theorem Blk.free (h : Blk w g t cs) (j : Nat) : w.frozen? ⟨g, j, none⟩ = false := by unfold Blk at h; simp [World.frozen?, h]
theorem Blk.lt (h : Blk w g t cs) : g < w.heap.size := lt_of_block h
theorem Blk.set (h : Blk w g t cs) (j : Nat) (v : Value) : Blk (w.setCell ⟨g, j, none⟩ v) g t (cs.set j v) := by
  have hlt := h.lt
  have h' : w.heap[g] = .cells cs.toArray t (0, 0) := by simpa [Blk, Array.getElem?_eq_getElem hlt] using h
  show (w.heap.modify g _)[g]? = _
  rw [Array.getElem?_eq_getElem (by simpa using hlt), Array.getElem_modify_self, h']
  simp
theorem Blk.cast {cs' : List Value} (h : Blk w g t cs) (e : cs = cs') : Blk w g t cs' := e ▸ h
theorem Blk.set5 {a0 a1 a2 a3 a4 : Value} (h : Blk w g t [a0, a1, a2, a3, a4]) (b0 b1 b2 b3 b4 : Value) :
    Blk (((((w.setCell ⟨g, 0, none⟩ b0).setCell ⟨g, 1, none⟩ b1).setCell ⟨g, 2, none⟩ b2).setCell ⟨g, 3, none⟩ b3).setCell ⟨g, 4, none⟩ b4) g t [b0, b1, b2, b3, b4] := by
  simpa using ((((h.set 0 b0).set 1 b1).set 2 b2).set 3 b3).set 4 b4
theorem Blk.cells5 {a0 a1 a2 a3 a4 : Value} (h : Blk w g t [a0, a1, a2, a3, a4]) : w.cell? ⟨g, 0, none⟩ = some a0 ∧ w.cell? ⟨g, 1, none⟩ = some a1 ∧ w.cell? ⟨g, 2, none⟩ = some a2 ∧ w.cell? ⟨g, 3, none⟩ = some a3 ∧ w.cell? ⟨g, 4, none⟩ = some a4 :=
  ⟨h.cell 0, h.cell 1, h.cell 2, h.cell 3, h.cell 4⟩
theorem Blk.cells2 {a0 a1 : Value} (h : Blk w g t [a0, a1]) : w.cell? ⟨g, 0, none⟩ = some a0 ∧ w.cell? ⟨g, 1, none⟩ = some a1 := ⟨h.cell 0, h.cell 1⟩
theorem Blk.set2 {a0 a1 : Value} (h : Blk w g t [a0, a1]) (b0 b1 : Value) : Blk ((w.setCell ⟨g, 0, none⟩ b0).setCell ⟨g, 1, none⟩ b1) g t [b0, b1] := by
  simpa using (h.set 0 b0).set 1 b1
theorem Blk.cells4 {a0 a1 a2 a3 : Value} (h : Blk w g t [a0, a1, a2, a3]) : w.cell? ⟨g, 0, none⟩ = some a0 ∧ w.cell? ⟨g, 1, none⟩ = some a1 ∧ w.cell? ⟨g, 2, none⟩ = some a2 ∧ w.cell? ⟨g, 3, none⟩ = some a3 := ⟨h.cell 0, h.cell 1, h.cell 2, h.cell 3⟩
theorem Blk.set4 {a0 a1 a2 a3 : Value} (h : Blk w g t [a0, a1, a2, a3]) (b0 b1 b2 b3 : Value) : Blk ((((w.setCell ⟨g, 0, none⟩ b0).setCell ⟨g, 1, none⟩ b1).setCell ⟨g, 2, none⟩ b2).setCell ⟨g, 3, none⟩ b3) g t [b0, b1, b2, b3] := by
  simpa using (((h.set 0 b0).set 1 b1).set 2 b2).set 3 b3
theorem Blk.on (h : Blk w g t cs) (hb : Below w.heap.size w w') : Blk w' g t cs := (hb.block g h.lt).trans h
theorem Blk.other (h : Blk w g t cs) {a : Addr} (ha : g ≠ a.block) (v : Value) : Blk (w.setCell a v) g t cs := by
  unfold Blk at *; rw [Below.heap_setCell _ _ _ _ ha]; exact h
theorem Blk.alloc (h : Blk w g t cs) (o : Obj) : Blk (w.alloc o) g t cs := by
  have hl := h.lt
  unfold Blk at *; rw [Below.heap_alloc _ _ _ hl]; exact h
theorem Blk.drew (h : Blk w g t cs) : Blk w.drew g t cs := h
theorem Blk.drewN (h : Blk w g t cs) (n : Nat) : Blk (w.drewN n) g t cs := h
theorem Blk.below {B : Nat} (h : Blk w g t cs) (hb : Below B w w') (hg : g < B) : Blk w' g t cs := (hb.block g hg).trans h
theorem Blk.new1 (w : World) (o : Obj) (cs : List Value) (t : TypeId) : Blk ((w.alloc o).alloc (.cells cs.toArray t)) (w.heap.size + 1) t cs := by
  have := heap_alloc_new (w.alloc o) (.cells cs.toArray t)
  unfold Blk
  simpa using this
theorem Blk.newAt {w : World} {cs : List Value} {t : TypeId} {g : Nat} (h : g = w.heap.size) : Blk (w.alloc (.cells cs.toArray t)) g t cs := h ▸ heap_alloc_new w _
theorem Blk.new (w : World) (cs : List Value) (t : TypeId) : Blk (w.alloc (.cells cs.toArray t)) w.heap.size t cs := heap_alloc_new w _
end

theorem Blk.not_row {w : World} {g : Nat} {t e : TypeId} {cs : List Value} (h : Blk w g t cs) (hte : t ≠ e) {base size k : Nat} {v : Value} {xs : List Value} (hr : w.ownsRow base e size v k xs) : some g ≠ v.ownBlock := by
  rcases hr.2 with ⟨rfl, _⟩ | ⟨b, cap, cur, rfl, _, hgb, _⟩
  · simp [Value.ownBlock]
  · intro e'
    obtain rfl : g = b := by simpa [Value.ownBlock] using e'
    unfold Blk at h
    rw [h] at hgb
    simp at hgb
    exact hte hgb.2
theorem Blk.grown {w w' : World} {g : Nat} {t e : TypeId} {cs : List Value} (h : Blk w g t cs) (hte : t ≠ e) {base size k : Nat} {v : Value} {xs : List Value} {o : Obj} (hr : w.ownsRow base e size v k xs) (hg : (w.alloc o).grownBy w' v.ownBlock) : Blk w' g t cs :=
  (hg.block g (by simpa using Nat.lt_succ_of_lt h.lt) (h.not_row hte hr)).trans (h.alloc o)
theorem row_on {w w' : World} {base size k : Nat} {e : TypeId} {v : Value} {xs : List Value} (h : w.ownsRow base e size v k xs) (hb : Below w.heap.size w w') : w'.ownsRow base e size v k xs := by
  refine h.kept (row := none) ⟨hb.os, hb.tape, hb.output, hb.size, fun i hi _ => hb.block i hi⟩ ?_
  rcases h.2 with ⟨rfl, _⟩ | ⟨g, cap, cur, rfl, _⟩
  · exact .inl rfl
  · exact .inr (by simp [Value.ownBlock])
theorem row_set {w : World} {g o base size k : Nat} {t e : TypeId} {cs : List Value} {v : Value} {xs : List Value} (h : w.ownsRow base e size v k xs) (hg : Blk w g t cs) (hte : t ≠ e) (u : Value) : (w.setCell ⟨g, o, none⟩ u).ownsRow base e size v k xs :=
  h.kept (row := some g) ⟨rfl, rfl, rfl, by simp [World.setCell], fun i _ hi => Below.heap_setCell _ _ _ i (fun e => hi (by rw [e]))⟩ (.inr (hg.not_row hte h).symm)

/-- a slice value that reads as these numbers, its cells (if it has any) below block B -/
def IsInts (w : World) (B : Nat) (v : Value) (l : List Int) : Prop :=
  ∃ a cap, v = .slice a l.length cap ∧ ((a = none → cap = 0) ∧ l.length ≤ cap) ∧ l.length ≤ 9223372036854775807 ∧ (∀ x ∈ l, (Lit.int .i64 x).wf = true) ∧
    (0 < l.length → ∃ b off, a = some ⟨b, off, none⟩ ∧ b < B ∧ ∀ k, k < l.length → w.cell? ⟨b, off + k, none⟩ = some (.int .i64 (l.getD k 0)))

section
variable {w w' : World} {B B' : Nat} {v : Value} {l : List Int}
theorem IsInts.below (h : IsInts w B v l) (hb : Below B w w') : IsInts w' B v l := by
  obtain ⟨a, cap, hv, hn, hm, hw, hc⟩ := h
  refine ⟨a, cap, hv, hn, hm, hw, fun hl => ?_⟩
  obtain ⟨b, off, ha, hbB, hcell⟩ := hc hl
  exact ⟨b, off, ha, hbB, fun k hk => (hb.cell (p := ⟨b, off + k, none⟩) hbB).trans (hcell k hk)⟩
theorem IsInts.mono (h : IsInts w B v l) (hB : B ≤ B') : IsInts w B' v l := by
  obtain ⟨a, cap, hv, hn, hm, hw, hc⟩ := h
  refine ⟨a, cap, hv, hn, hm, hw, fun hl => ?_⟩
  obtain ⟨b, off, ha, hbB, hcell⟩ := hc hl
  exact ⟨b, off, ha, by omega, hcell⟩
theorem IsInts.on (h : IsInts w w.heap.size v l) (hb : Below w.heap.size w w') : IsInts w' w'.heap.size v l := (h.below hb).mono hb.size
theorem IsInts.at {a : Option Addr} {n c : Nat} (h : IsInts w B (.slice a n c) l) (hp : 0 < l.length) : ∃ b off, a = some ⟨b, off, none⟩ ∧ b < B ∧ ∀ k, k < l.length → w.cell? ⟨b, off + k, none⟩ = some (.int .i64 (l.getD k 0)) := by
  obtain ⟨a', cap, hv, _, _, _, hc⟩ := h
  obtain ⟨b, off, rfl, hb, hd⟩ := hc hp
  cases hv
  exact ⟨b, off, rfl, hb, hd⟩
/-- all but the first one -/
theorem IsInts.tail {b off n c : Nat} {x : Int} (h : IsInts w B (.slice (some ⟨b, off, none⟩) n c) (x :: l)) {c' : Nat} (hc' : l.length ≤ c') : IsInts w B (.slice (some ⟨b, off + 1, none⟩) l.length c') l := by
  obtain ⟨a', cap, hv, _, hm, hw, hc⟩ := h
  refine ⟨_, c', rfl, ⟨(fun h => by cases h), hc'⟩, by simp at hm; omega, fun y hy => hw y (by simp [hy]), fun _ => ?_⟩
  obtain ⟨b', off', rfl, hb, hd⟩ := hc (by simp)
  cases hv
  refine ⟨b, off + 1, rfl, hb, fun k hk => ?_⟩
  have := hd (k + 1) (by simp; omega)
  rw [show off + 1 + k = off + (k + 1) by omega, this]
  simp
theorem IsInts.cap {a : Option Addr} {n c : Nat} (h : IsInts w B (.slice a n c) l) : l.length ≤ c := by
  obtain ⟨a', cap, hv, hn, _⟩ := h
  cases hv
  exact hn.2
/-- nothing, whatever lies there -/
theorem IsInts.zero (w : World) (B : Nat) (a : Addr) (c : Nat) : IsInts w B (.slice (some a) 0 c) [] := ⟨_, c, rfl, ⟨(fun h => by cases h), Nat.zero_le _⟩, by simp, by simp, by simp⟩
theorem IsInts.nil (w : World) (B : Nat) : IsInts w B (.slice none 0 0) [] := ⟨none, 0, rfl, ⟨fun _ => rfl, by simp⟩, by simp, by simp, by simp⟩
theorem IsInts.len (h : IsInts w B v l) : l.length ≤ 9223372036854775807 := by obtain ⟨_, _, _, _, hm, _, _⟩ := h; exact hm
theorem IsInts.wf (h : IsInts w B v l) : ∀ x ∈ l, (Lit.int .i64 x).wf = true := by obtain ⟨_, _, _, _, _, hw, _⟩ := h; exact hw
/-- a row that the call owns, of numbers -/
theorem IsInts.of_owns {base n : Nat} {e : TypeId} (h : w.ownsRow base e 1 v n (l.map (Value.int .i64))) (hn : n = l.length) (hw : ∀ x ∈ l, (Lit.int .i64 x).wf = true) : IsInts w w.heap.size v l := by
  obtain ⟨hl, h⟩ := h
  rcases h with ⟨rfl, h0⟩ | ⟨g, cap, cur, rfl, hb, hg, hnc, hcm, hcs, htk⟩
  · have : l = [] := List.eq_nil_of_length_eq_zero (by omega)
    subst this
    exact IsInts.nil _ _
  · subst hn
    refine ⟨_, cap, rfl, ⟨(fun h => by cases h), hnc⟩, by simp [maxLen] at hcm; omega, hw, fun _ => ⟨g, 0, rfl, lt_of_block hg, fun k hk => ?_⟩⟩
    have h1 : (cur.toList.take (l.length * 1))[k]? = (l.map (Value.int .i64))[k]? := by rw [htk]
    rw [List.getElem?_take, if_pos (by omega)] at h1
    simp [World.cell?, hg]
    simpa [List.getD, hk] using h1
end

/-- append, to a row that the call owns, of what reads as numbers -/
theorem append_ints {P : Program} {w : World} {B : Nat} {ops : Array Oper} {rest : List Oper} {o : Oper} {a : Act} {Q : Exit → Act → World → Prop} (hgd : o.guard = none) (s x : Operand) (t : TypeId)
    (ho : o.op = .call { callee := .builtin .append, args := #[s, x], argTypes := #[t, t] })
    (base : Nat) (e : TypeId) (ht : P.underlying t = some (.slice e)) (hinfo : (P.info? e).map (fun i => (i.zero, i.size, i.bytes)) = some (some (.int .i64 0), 1, 8))
    (u : Value) (n : Nat) (xs : List Int) (hs : a.eval s = u) (hown : w.ownsRow base e 1 u n (xs.map (Value.int .i64))) (v : Value) (l : List Int) (hx : a.eval x = v) (hv : IsInts w B v l)
    (hbytes : n + l.length ≤ 17592186044416) (hbase : base ≤ w.heap.size)
    (h : ∀ u' w', w'.ownsRow base e 1 u' (n + l.length) ((xs ++ l).map (Value.int .i64)) → w.grownBy w' u.ownBlock → wpList P ops Q rest (a.put o.dst u') w') : wpList P ops Q (o :: rest) a w := by
  obtain ⟨i, hi, hz, hsz, hby⟩ := info_parts hinfo
  obtain ⟨ad, cap, rfl, hn, hm, hw, hc⟩ := hv
  cases ad with
  | none =>
    obtain rfl := hn.1 rfl
    have hl : l = [] := by
      cases l with
      | nil => rfl
      | cons y l => obtain ⟨_, _, h, _⟩ := hc (by simp); cases h
    subst hl
    exact wpList_append_own_none hgd s x t ho base e i 1 ht hi u n _ hs hown hx (h _ _ (by simpa using hown) (World.grownBy.refl _ _))
  | some ad =>
    refine wpList_append_own (w := w) hgd s x t ho base e i (.int .i64 0) 1 8 ht hi hz hsz hby rfl (by decide) u n _ hs hown ad l.length cap (l.map (Value.int .i64)) hx (by simp) ?_ (ints_oneCell _ _) ?_ (by omega) hbase ?_
    · intro j y hj
      have hjl : j < l.length := by simpa using (List.getElem?_eq_some_iff.1 hj).1
      obtain ⟨b, off, he, hb, hcell⟩ := hc (by omega)
      obtain rfl := Option.some.inj he
      rw [Addr.add_lit, hcell j hjl]
      rw [← hj]
      simp [List.getD, hjl]
    · simp [maxLen]; omega
    · intro u' w' h1 h2 _
      exact h u' w' (by simpa using h1) h2

/-- what a walk keeps: what was there, and these blocks of its own -/
structure All (w w' : World) (L : List (Nat × TypeId × List Value)) : Prop where
  below : Below w.heap.size w w'
  blk : ∀ x ∈ L, Blk w' x.1 x.2.1 x.2.2

section
variable {w w' w'' : World} {L : List (Nat × TypeId × List Value)}
theorem All.refl (w : World) : All w w [] := ⟨Below.refl _ _, by simp⟩
theorem All.at (h : All w w' L) (i : Nat) {x : Nat × TypeId × List Value} (hi : L[i]? = some x) : Blk w' x.1 x.2.1 x.2.2 := h.blk x (List.mem_of_getElem? hi)
theorem All.step (h : All w w' L) (hb : Below w'.heap.size w' w'') : All w w'' L :=
  ⟨h.below.trans (hb.mono h.below.size), fun x hx => (h.blk x hx).below hb (h.blk x hx).lt⟩
theorem All.drew (h : All w w' L) : All w w'.drew L := ⟨h.below.drew, h.blk⟩
theorem All.drewN (h : All w w' L) (n : Nat) : All w (w'.drewN n) L := ⟨below_drewN h.below n, h.blk⟩
theorem All.push (h : All w w' L) (o : Obj) : All w (w'.alloc o) L := ⟨h.below.alloc h.below.size o, fun x hx => (h.blk x hx).alloc o⟩
theorem All.alloc (h : All w w' L) (cs : List Value) (t : TypeId) : All w (w'.alloc (.cells cs.toArray t)) ((w'.heap.size, t, cs) :: L) := by
  refine ⟨h.below.alloc h.below.size _, fun x hx => ?_⟩
  rcases List.mem_cons.1 hx with rfl | hx
  · exact Blk.new _ _ _
  · exact (h.blk x hx).alloc _
theorem All.ints (h : All w w' L) {v : Value} {l : List Int} (hv : IsInts w w.heap.size v l) : IsInts w' w'.heap.size v l := (hv.below h.below).mono h.below.size
end
end Go.Proofs.Ytfbeiimmcemniaa.hp
