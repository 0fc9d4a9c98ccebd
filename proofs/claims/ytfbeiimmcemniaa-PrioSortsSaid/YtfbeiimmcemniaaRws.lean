/- Rows of structs of ints (items, spans) in memory; an argument that is one. -/
import Derived.Test.YtfbeiimmcemniaaHeap
import Derived.Laws.Slices
import Derived.ChangeSlices
import Derived.ChangeSame
import Derived.ProofKit
namespace Go.Proofs.Ytfbeiimmcemniaa.rws
open Go Go.RowKit

/-- how many cells each one has, and which -/
structure Lay (α : Type) where
  s : Nat
  pos : 0 < s
  cs : α → List Value
  len : ∀ x, (cs x).length = s
  one : ∀ x, ∀ u ∈ cs x, u.oneCell' = true
section
variable {α : Type} (Λ : Lay α)
def flat (l : List α) : List Value := l.flatMap Λ.cs
theorem flat_nil : flat Λ [] = [] := rfl
theorem flat_cons (x : α) (l : List α) : flat Λ (x :: l) = Λ.cs x ++ flat Λ l := rfl
theorem flat_app (a b : List α) : flat Λ (a ++ b) = flat Λ a ++ flat Λ b := by simp [flat]
theorem flat_len (l : List α) : (flat Λ l).length = l.length * Λ.s := by
  induction l with
  | nil => simp [flat]
  | cons x l ih => rw [flat_cons, List.length_append, ih, Λ.len, List.length_cons, Nat.succ_mul, Nat.add_comm]
theorem flat_drop (l : List α) (i : Nat) : flat Λ (l.drop i) = (flat Λ l).drop (i * Λ.s) := by
  induction l generalizing i with
  | nil => simp [flat]
  | cons x l ih =>
    cases i with
    | zero => simp
    | succ i => rw [List.drop_succ_cons, ih, flat_cons, Nat.succ_mul, Nat.add_comm, ← List.drop_drop, List.drop_left' (Λ.len x)]
theorem flat_take (l : List α) (i : Nat) : flat Λ (l.take i) = (flat Λ l).take (i * Λ.s) := by
  induction l generalizing i with
  | nil => simp [flat]
  | cons x l ih =>
    cases i with
    | zero => simp [flat]
    | succ i =>
      rw [List.take_succ_cons, flat_cons, ih, flat_cons, Nat.succ_mul, Nat.add_comm, List.take_append, Λ.len, show (Λ.cs x).take (Λ.s + i * Λ.s) = Λ.cs x from List.take_of_length_le (by rw [Λ.len]; omega), Nat.add_sub_cancel_left]
theorem flat_one (l : List α) : ∀ u ∈ flat Λ l, u.oneCell' = true := fun u hu => by
  obtain ⟨x, -, hx⟩ := List.mem_flatMap.1 hu
  exact Λ.one x u hx
/-- the cells of one of them -/
theorem flat_at {l : List α} {k : Nat} {x : α} (h : l[k]? = some x) (i : Nat) (hi : i < Λ.s) : (flat Λ l)[k * Λ.s + i]? = (Λ.cs x)[i]? := by
  have h1 := congrArg (fun l => l[i]?) (flat_drop Λ l k)
  simp only [List.getElem?_drop] at h1
  rw [← h1]
  obtain ⟨hk, rfl⟩ := List.getElem?_eq_some_iff.1 h
  rw [List.drop_eq_getElem_cons hk, flat_cons, List.getElem?_append_left (by rw [Λ.len]; exact hi)]

/-- a slice value that reads as these, its cells (if it has any) below block B -/
def IsRw (W : World) (B : Nat) (v : Value) (l : List α) : Prop :=
  ∃ a cap, v = .slice a l.length cap ∧ ((a = none → cap = 0) ∧ l.length ≤ cap) ∧ l.length ≤ 9223372036854775807 ∧
    (0 < l.length → ∃ b off, a = some ⟨b, off, none⟩ ∧ b < B ∧ ∀ j u, (flat Λ l)[j]? = some u → W.cell? ⟨b, off + j, none⟩ = some u)
end
section
variable {α : Type} {Λ : Lay α} {w w' : World} {B B' : Nat} {v : Value} {l : List α}
theorem IsRw.below (h : IsRw Λ w B v l) (hb : Below B w w') : IsRw Λ w' B v l := by
  obtain ⟨a, cap, hv, hn, hm, hc⟩ := h
  refine ⟨a, cap, hv, hn, hm, fun hl => ?_⟩
  obtain ⟨b, off, ha, hbB, hcell⟩ := hc hl
  exact ⟨b, off, ha, hbB, fun j u hj => (hb.cell (p := ⟨b, off + j, none⟩) hbB).trans (hcell j u hj)⟩
theorem IsRw.mono (h : IsRw Λ w B v l) (hB : B ≤ B') : IsRw Λ w B' v l := by
  obtain ⟨a, cap, hv, hn, hm, hc⟩ := h
  refine ⟨a, cap, hv, hn, hm, fun hl => ?_⟩
  obtain ⟨b, off, ha, hbB, hcell⟩ := hc hl
  exact ⟨b, off, ha, by omega, hcell⟩
theorem IsRw.on (h : IsRw Λ w w.heap.size v l) (hb : Below w.heap.size w w') : IsRw Λ w' w'.heap.size v l := (h.below hb).mono hb.size
theorem IsRw.nil (w : World) (B : Nat) : IsRw Λ w B (.slice none 0 0) [] := ⟨none, 0, rfl, ⟨fun _ => rfl, by simp⟩, by simp, by simp⟩
theorem IsRw.zero (w : World) (B : Nat) (a : Addr) (c : Nat) : IsRw Λ w B (.slice (some a) 0 c) [] := ⟨_, c, rfl, ⟨(fun h => by cases h), Nat.zero_le _⟩, by simp, by simp⟩
theorem IsRw.len (h : IsRw Λ w B v l) : l.length ≤ 9223372036854775807 := by obtain ⟨_, _, _, _, hm, _⟩ := h; exact hm
theorem IsRw.val (h : IsRw Λ w B v l) : ∃ a c, v = .slice a l.length c := by obtain ⟨a, c, hv, _⟩ := h; exact ⟨a, c, hv⟩
theorem IsRw.cap {a : Option Addr} {n c : Nat} (h : IsRw Λ w B (.slice a n c) l) : l.length ≤ c := by
  obtain ⟨a', cap, hv, hn, _⟩ := h
  cases hv
  exact hn.2
theorem IsRw.at {a : Option Addr} {n c : Nat} (h : IsRw Λ w B (.slice a n c) l) (hp : 0 < l.length) : ∃ b off, a = some ⟨b, off, none⟩ ∧ b < B ∧ ∀ k x, l[k]? = some x → ∀ i u, (Λ.cs x)[i]? = some u → w.cell? ⟨b, off + (k * Λ.s + i), none⟩ = some u := by
  obtain ⟨a', cap, hv, _, _, hc⟩ := h
  obtain ⟨b, off, rfl, hb, hd⟩ := hc hp
  cases hv
  refine ⟨b, off, rfl, hb, fun k x hk i u hi => hd _ u ?_⟩
  rw [flat_at Λ hk i (by have := (List.getElem?_eq_some_iff.1 hi).1; rwa [Λ.len] at this), hi]
/-- a row that the call owns -/
theorem IsRw.of_owns {base n : Nat} {e : TypeId} (h : w.ownsRow base e Λ.s v n (flat Λ l)) (hn : n = l.length) : IsRw Λ w w.heap.size v l := by
  obtain ⟨hl, h⟩ := h
  rcases h with ⟨rfl, h0⟩ | ⟨g, cap, cur, rfl, hb, hg, hnc, hcm, hcs, htk⟩
  · have : l = [] := List.eq_nil_of_length_eq_zero (by omega)
    subst this
    exact IsRw.nil _ _
  · subst hn
    refine ⟨_, cap, rfl, ⟨(fun h => by cases h), hnc⟩, by simp [maxLen] at hcm; omega, fun _ => ⟨g, 0, rfl, lt_of_block hg, fun j u hj => ?_⟩⟩
    have h1 : (cur.toList.take (l.length * Λ.s))[j]? = some u := by rw [htk]; exact hj
    have hjl : j < l.length * Λ.s := by rw [← flat_len]; exact (List.getElem?_eq_some_iff.1 hj).1
    rw [List.getElem?_take, if_pos hjl] at h1
    simp [World.cell?, hg]
    simpa using h1
theorem IsRw.sliced {a : Option Addr} {n c : Nat} (h : IsRw Λ w B (.slice a n c) l) {i j : Nat} (hij : i ≤ j) (hj : j ≤ l.length) : IsRw Λ w B (Go.sliced a i j c Λ.s) ((l.take j).drop i) := by
  obtain ⟨a', cap, hv, hn, hm, hc⟩ := h
  cases hv
  have hl : ((l.take j).drop i).length = j - i := by simp; omega
  refine ⟨if c = i then a else a.map (·.add (i * Λ.s)), c - i, by rw [hl]; rfl, ⟨fun h => ?_, by rw [hl]; omega⟩, by rw [hl]; omega, fun hp => ?_⟩
  · split at h
    · omega
    · rw [hn.1 (by cases a <;> simp_all)]; omega
  · rw [hl] at hp
    obtain ⟨b, off, rfl, hb, hd⟩ := hc (by omega)
    refine ⟨b, off + i * Λ.s, by rw [if_neg (by omega)]; simp [Addr.add], hb, fun k u hk => ?_⟩
    rw [Nat.add_assoc]
    refine hd _ u ?_
    rw [flat_drop, flat_take, List.getElem?_drop, List.getElem?_take] at hk
    split at hk
    · exact hk
    · cases hk
theorem IsRw.from {a : Option Addr} {n c : Nat} (h : IsRw Λ w B (.slice a n c) l) {i : Nat} (hi : i ≤ l.length) : IsRw Λ w B (Go.sliced a i l.length c Λ.s) (l.drop i) := by
  have := h.sliced hi (Nat.le_refl _)
  rwa [List.take_length] at this
end

/-- append, to a row that the call owns, of what reads as these -/
theorem append_rws {α : Type} {Λ : Lay α} {P : Program} {w : World} {B : Nat} {ops : Array Oper} {rest : List Oper} {o : Oper} {a : Act} {Q : Exit → Act → World → Prop} (hgd : o.guard = none) (s x : Operand) (t : TypeId)
    (ho : o.op = .call { callee := .builtin .append, args := #[s, x], argTypes := #[t, t] })
    (base : Nat) (e : TypeId) (z : Value) (ht : P.underlying t = some (.slice e)) (hinfo : (P.info? e).map (fun i => (i.zero, i.size, i.bytes)) = some (some z, Λ.s, Λ.s * 8)) (hz : z.cells.size = Λ.s)
    (u : Value) (n : Nat) (xs : List α) (hs : a.eval s = u) (hown : w.ownsRow base e Λ.s u n (flat Λ xs)) (v : Value) (l : List α) (hx : a.eval x = v) (hv : IsRw Λ w B v l)
    (hlen : n + l.length ≤ 9223372036854775807) (hbytes : (n + l.length) * (Λ.s * 8) ≤ 140737488355328) (hbase : base ≤ w.heap.size)
    (h : ∀ u' w', w'.ownsRow base e Λ.s u' (n + l.length) (flat Λ (xs ++ l)) → w.grownBy w' u.ownBlock → wpList P ops Q rest (a.put o.dst u') w') : wpList P ops Q (o :: rest) a w := by
  obtain ⟨i, hi, hz', hsz, hby⟩ := info_parts hinfo
  obtain ⟨ad, cap, rfl, hn, hm, hc⟩ := hv
  cases ad with
  | none =>
    obtain rfl := hn.1 rfl
    have hl : l = [] := by
      cases l with
      | nil => rfl
      | cons y l => obtain ⟨_, _, h, _⟩ := hc (by simp); cases h
    subst hl
    exact wpList_append_own_none hgd s x t ho base e i Λ.s ht hi u n _ hs hown hx (h _ _ (by simpa using hown) (World.grownBy.refl _ _))
  | some ad =>
    refine wpList_append_own (w := w) hgd s x t ho base e i z Λ.s (Λ.s * 8) ht hi hz' hsz hby hz Λ.pos u n _ hs hown ad l.length cap (flat Λ l) hx (flat_len Λ l) ?_ (flat_one Λ l) ?_ hbytes hbase ?_
    · intro j y hj
      have hjl : j < l.length * Λ.s := by rw [← flat_len]; exact (List.getElem?_eq_some_iff.1 hj).1
      have hpos : 0 < l.length := Nat.pos_of_ne_zero fun h0 => by rw [h0, Nat.zero_mul] at hjl; omega
      obtain ⟨b, off, he, hb, hcell⟩ := hc hpos
      obtain rfl := Option.some.inj he
      rw [Addr.add_lit, hcell j y hj]
    · simp [maxLen]; omega
    · intro u' w' h1 h2 _
      exact h u' w' (by rw [flat_app]; exact h1) h2

/-- pairs of ints -/
def pr : Lay (Int × Int) where
  s := 2
  pos := by decide
  cs x := [.int .i64 x.1, .int .i64 x.2]
  len _ := rfl
  one x u hu := by
    rcases List.mem_cons.1 hu with rfl | hu
    · rfl
    · rcases List.mem_cons.1 hu with rfl | hu
      · rfl
      · cases hu
/-- three ints each -/
def tr : Lay (Int × Int × Int) where
  s := 3
  pos := by decide
  cs x := [.int .i64 x.1, .int .i64 x.2.1, .int .i64 x.2.2]
  len _ := rfl
  one x u hu := by
    rcases List.mem_cons.1 hu with rfl | hu
    · rfl
    · rcases List.mem_cons.1 hu with rfl | hu
      · rfl
      · rcases List.mem_cons.1 hu with rfl | hu
        · rfl
        · cases hu
def WfP (x : Int × Int) : Prop := (Lit.int .i64 x.1).wf = true ∧ (Lit.int .i64 x.2).wf = true
def WfT (x : Int × Int × Int) : Prop := (Lit.int .i64 x.1).wf = true ∧ (Lit.int .i64 x.2.1).wf = true ∧ (Lit.int .i64 x.2.2).wf = true

section
open Go.ChangeShapes Go.ChangeAt
variable {H : Type} {enc : TypeId × Value → H} {P : Program} {w : World} {base : Nat} {spare : Nat → Bool} {held : Bool}
theorem open_pair {e : TypeId} {f0 f1 : Field} {fuel : Nat} {cs : List Value} {x : DataW H × List MemPlace} (he : P.underlying e = some (.struct #[f0, f1])) (h0 : P.underlying f0.type = some (.int .i64)) (h1 : P.underlying f1.type = some (.int .i64))
    (c0 : P.cellsOf f0.type = 1) (c1 : P.cellsOf f1.type = 1) (o0 : f0.offset = 0) (o1 : f1.offset = 1) (hc : P.cellsOf e = 2) (h : DataW.trod enc P w base spare held fuel e cs = some x) : ∃ y : Int × Int, cs = pr.cs y ∧ WfP y := by
  obtain ⟨y0, y1, n, -, hl, t0, t1⟩ := trod_struct2 he h
  rw [hc] at hl
  rw [c0, o0] at t0
  rw [c1, o1] at t1
  obtain ⟨a, b, rfl⟩ : ∃ a b, cs = [a, b] := by
    match cs, hl with
    | [a, b], _ => exact ⟨a, b, rfl⟩
  obtain ⟨m, e0, -, w0⟩ := DataW.trod_int h0 t0
  obtain ⟨k, e1, -, w1⟩ := DataW.trod_int h1 t1
  simp at e0 e1
  subst e0 e1
  exact ⟨(m, k), rfl, w0, w1⟩
theorem open_pairs {t e : TypeId} {f0 f1 : Field} {fuel : Nat} {cs : List Value} {x : DataW H × List MemPlace} (ht : P.underlying t = some (.slice e)) (he : P.underlying e = some (.struct #[f0, f1])) (h0 : P.underlying f0.type = some (.int .i64)) (h1 : P.underlying f1.type = some (.int .i64))
    (c0 : P.cellsOf f0.type = 1) (c1 : P.cellsOf f1.type = 1) (o0 : f0.offset = 0) (o1 : f1.offset = 1) (hc : P.cellsOf e = 2) (h : DataW.trod enc P w base spare held fuel t cs = some x) :
    (cs = [.slice none 0 0] ∧ x.1 = .nil) ∨ ∃ (a : Addr) (len cap : Nat) (l : List (Int × Int)) (xs ys : List (DataW H)), cs = [.slice (some a) len cap] ∧ len ≤ cap ∧ cap ≤ maxLen ∧ x.1 = .slice xs ys ∧ xs.length = len ∧ l.length = len ∧
      (∀ j u, (flat pr l)[j]? = some u → w.cell? (a.add j) = some u) ∧ ∀ y ∈ l, WfP y := by
  rcases DataW.trod_slice ht h with ⟨h1, rfl⟩ | ⟨a, len, cap, elems, rest, n, _, rfl, rfl, hb, hl, hm, hlen, hel, -, -⟩
  · exact .inl ⟨h1, rfl⟩
  right
  have each : ∀ i, i < len → ∃ y : Int × Int, WfP y ∧ ∀ j u, (pr.cs y)[j]? = some u → w.cell? (a.add (i * 2 + j)) = some u := by
    intro i hi
    have hy := hel i hi
    rw [List.getElem?_eq_getElem (by omega), hc, Option.bind_eq_some_iff] at hy
    obtain ⟨cs', hcs, hy'⟩ := hy
    obtain ⟨y, rfl, hw⟩ := open_pair he h0 h1 c0 c1 o0 o1 hc hy'
    refine ⟨y, hw, fun j u hj => ?_⟩
    have hj2 : j < 2 := by have := (List.getElem?_eq_some_iff.1 hj).1; simpa [pr] using this
    have h3 := (World.cells?_some hcs).2.2 j hj2
    rw [Addr.add_add] at h3
    rw [h3, hj]
  have build : ∀ m, m ≤ len → ∃ l : List (Int × Int), l.length = m ∧ (∀ y ∈ l, WfP y) ∧ ∀ j u, (flat pr l)[j]? = some u → w.cell? (a.add j) = some u := by
    intro m
    induction m with
    | zero => intro _; exact ⟨[], rfl, by simp, by simp [flat]⟩
    | succ m ih =>
      intro hmle
      obtain ⟨l, l1, l2, l3⟩ := ih (by omega)
      obtain ⟨y, hy, hcell⟩ := each m (by omega)
      refine ⟨l ++ [y], by simp [l1], fun z hz => ?_, fun j u hj => ?_⟩
      · rcases List.mem_append.1 hz with hz | hz
        · exact l2 z hz
        · obtain rfl : z = y := by simpa using hz
          exact hy
      · rw [flat_app] at hj
        have hfl : (flat pr l).length = m * 2 := by rw [flat_len, l1]; rfl
        by_cases hjl : j < m * 2
        · rw [List.getElem?_append_left (by omega)] at hj
          exact l3 j u hj
        · rw [List.getElem?_append_right (by omega), hfl] at hj
          have := hcell (j - m * 2) u (by simpa [flat] using hj)
          rwa [show m * 2 + (j - m * 2) = j by omega] at this
  obtain ⟨l, l1, l2, l3⟩ := build len (Nat.le_refl _)
  exact ⟨a, len, cap, l, _, _, rfl, hl, hm, rfl, by simpa using hlen, l1, l3, l2⟩
/-- an argument that is a slice of pairs -/
theorem pairs_of {t e : TypeId} {f0 f1 : Field} {a : Option Addr} {len cap : Nat} {d : DataW H} {p : List MemPlace} (ht : P.underlying t = some (.slice e)) (he : P.underlying e = some (.struct #[f0, f1])) (h0 : P.underlying f0.type = some (.int .i64)) (h1 : P.underlying f1.type = some (.int .i64))
    (c0 : P.cellsOf f0.type = 1) (c1 : P.cellsOf f1.type = 1) (o0 : f0.offset = 0) (o1 : f1.offset = 1) (hc : P.cellsOf e = 2)
    (h : DataW.Trod enc P w 0 (fun _ => true) true t (.slice a len cap) d p) : ∃ l, IsRw pr w w.heap.size (.slice a len cap) l ∧ (∀ x ∈ l, WfP x) ∧ ((d = .nil ∧ l = []) ∨ ∃ x y, d = .slice x y ∧ l.length = x.length) := by
  obtain ⟨fuel, hf⟩ := h
  rcases open_pairs ht he h0 h1 c0 c1 o0 o1 hc hf with ⟨hcs, hd⟩ | ⟨x, n, c, l, xs, ys, hcs, hl, hm, hd, hxl, hll, hcell, hw⟩
  · simp [Value.cells] at hcs
    obtain ⟨rfl, rfl, rfl⟩ := hcs
    exact ⟨[], IsRw.nil _ _, by simp, .inl ⟨hd, rfl⟩⟩
  · simp [Value.cells] at hcs
    obtain ⟨rfl, rfl, rfl⟩ := hcs
    refine ⟨l, ⟨some x, cap, by rw [hll], ⟨(fun h => by cases h), by omega⟩, by simp [maxLen] at hm; omega, fun hpos => ?_⟩, hw, .inr ⟨xs, ys, hd, by omega⟩⟩
    obtain ⟨b, off, spot⟩ := x
    have hfl : 0 < (flat pr l).length := by rw [flat_len]; exact Nat.mul_pos hpos pr.pos
    have hc0 := hcell 0 _ (List.getElem?_eq_getElem hfl)
    have hspot : spot = none := by simpa [Addr.add] using World.cell?_spot hc0
    subst hspot
    refine ⟨b, off, rfl, World.block_lt_of_cell? _ _ hc0, fun j u hj => ?_⟩
    have := hcell j u hj
    rwa [show (⟨b, off, none⟩ : Addr).add j = ⟨b, off + j, none⟩ from by unfold Addr.add; split <;> simp_all] at this
end
end Go.Proofs.Ytfbeiimmcemniaa.rws
