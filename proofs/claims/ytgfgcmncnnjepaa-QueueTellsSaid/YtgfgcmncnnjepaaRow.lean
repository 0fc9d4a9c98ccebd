/- A row of ints that the call owns, from some place of its block on: what append leaves, and what is left of it behind its first number. -/
import Derived.Test.YtgfgcmncnnjepaaBrk
import Derived.ArgAppend
import Derived.Maps.AppendAt
namespace Go.Proofs.Ytgfgcmncnnjepaa.hp
open Go Go.RowKit

/-- a slice value in a block of the call's own, from base on, which reads as these numbers -/
def Row (w : World) (base : Nat) (v : Value) (l : List Int) : Prop :=
  (v = .slice none 0 0 ∧ l = []) ∨
  ∃ g off cap cs, v = .slice (some ⟨g, off, none⟩) l.length cap ∧ base ≤ g ∧ Blk w g 3 cs ∧ l.length ≤ cap ∧ cap ≤ maxLen ∧ off + cap ≤ cs.length ∧ ∀ k, k < l.length → cs[off + k]? = some (.int .i64 (l.getD k 0))

section
variable {w w' : World} {base : Nat} {v : Value} {l : List Int}

theorem Row.nil (w : World) (base : Nat) : Row w base (.slice none 0 0) [] := .inl ⟨rfl, rfl⟩

theorem Row.of_owns {n : Nat} {b : Nat} (h : w.ownsRow b 3 1 v n (l.map (Value.int .i64))) (hn : n = l.length) (hb : base ≤ b) : Row w base v l := by
  subst hn
  obtain ⟨hl, h⟩ := h
  rcases h with ⟨rfl, h0⟩ | ⟨g, cap, cur, rfl, hbg, hg, hnc, hcm, hcs, htk⟩
  · exact .inl ⟨rfl, List.eq_nil_of_length_eq_zero h0⟩
  · refine .inr ⟨g, 0, cap, cur.toList, rfl, by omega, ?_, hnc, hcm, by simp; omega, fun k hk => ?_⟩
    · unfold Blk
      rw [hg, Array.toArray_toList]
    · have h1 : (cur.toList.take (l.length * 1))[k]? = (l.map (Value.int .i64))[k]? := by rw [htk]
      rw [List.getElem?_take_of_lt (by omega)] at h1
      rw [Nat.zero_add, h1]
      simp [hk]

theorem Row.ints (h : Row w base v l) (hw : ∀ x ∈ l, (Lit.int .i64 x).wf = true) : IsInts w w.heap.size v l := by
  rcases h with ⟨rfl, rfl⟩ | ⟨g, off, cap, cs, rfl, hb, hB, hnc, hcm, hoc, hcs⟩
  · exact IsInts.nil _ _
  · refine ⟨_, cap, rfl, ⟨(fun h => by cases h), hnc⟩, by simp [maxLen] at hcm; omega, hw, fun _ => ⟨g, off, rfl, hB.lt, fun k hk => ?_⟩⟩
    rw [hB.cell, hcs k hk]

theorem Row.kept (h : Row w base v l) (hk : ∀ g cs, Blk w g 3 cs → Blk w' g 3 cs) : Row w' base v l := by
  rcases h with h | ⟨g, off, cap, cs, rfl, hb, hB, hr⟩
  · exact .inl h
  · exact .inr ⟨g, off, cap, cs, rfl, hb, hk _ _ hB, hr⟩
theorem Row.on (h : Row w base v l) (hb : Below w.heap.size w w') : Row w' base v l := h.kept fun _ _ hB => hB.on hb
theorem Row.alloc (h : Row w base v l) (o : Obj) : Row (w.alloc o) base v l := h.kept fun _ _ hB => hB.alloc o
theorem Row.set {g o : Nat} {t : TypeId} {cs : List Value} (h : Row w base v l) (hg : Blk w g t cs) (u : Value) (ht : t ≠ 3 := by decide) : Row (w.setCell ⟨g, o, none⟩ u) base v l :=
  h.kept fun _ _ hB => hB.other (hB.ne hg (fun e => ht e.symm)) u
theorem Row.set4 {g : Nat} {t : TypeId} {a b c d : Value} (h : Row w base v l) (hg : Blk w g t [a, b, c, d]) (u0 u1 u2 u3 : Value) (ht : t ≠ 3 := by decide) : Row ((((w.setCell ⟨g, 0, none⟩ u0).setCell ⟨g, 1, none⟩ u1).setCell ⟨g, 2, none⟩ u2).setCell ⟨g, 3, none⟩ u3) base v l :=
  (((h.set hg u0 ht).set (hg.set 0 u0) u1 ht).set ((hg.set 0 u0).set 1 u1) u2 ht).set (((hg.set 0 u0).set 1 u1).set 2 u2) u3 ht

theorem Row.slice (h : Row w base v l) : ∃ a cap, v = .slice a l.length cap ∧ l.length ≤ cap := by
  rcases h with ⟨rfl, rfl⟩ | ⟨g, off, cap, cs, rfl, hb, hB, hnc, _⟩
  · exact ⟨_, _, rfl, Nat.le_refl _⟩
  · exact ⟨_, _, rfl, hnc⟩
theorem Row.at {x : Int} (h : Row w base v (x :: l)) : ∃ g off cap, v = .slice (some ⟨g, off, none⟩) (l.length + 1) cap ∧ g < w.heap.size ∧ w.cell? ⟨g, off, none⟩ = some (.int .i64 x) ∧ l.length + 1 ≤ cap := by
  rcases h with ⟨rfl, h0⟩ | ⟨g, off, cap, cs, rfl, hb, hB, hnc, hcm, hoc, hcs⟩
  · cases h0
  · refine ⟨g, off, cap, rfl, hB.lt, ?_, hnc⟩
    have := hcs 0 (by simp)
    rw [hB.cell]
    simpa using this
theorem Row.tail {g off n c : Nat} {x : Int} (h : Row w base (.slice (some ⟨g, off, none⟩) n c) (x :: l)) : Row w base (.slice (some ⟨g, off + 1, none⟩) l.length (c - 1)) l := by
  rcases h with ⟨_, h0⟩ | ⟨g', off', cap, cs, hv, hb, hB, hnc, hcm, hoc, hcs⟩
  · cases h0
  · cases hv
    simp only [List.length_cons] at hnc
    refine .inr ⟨g, off + 1, c - 1, cs, rfl, hb, hB, by omega, by omega, by omega, fun k hk => ?_⟩
    have := hcs (k + 1) (by simp; omega)
    rw [show off + 1 + k = off + (k + 1) by omega, this]
    simp
theorem Row.tail1 {g off n : Nat} {x : Int} (h : Row w base (.slice (some ⟨g, off, none⟩) n 1) (x :: l)) : l = [] ∧ Row w base (.slice (some ⟨g, off, none⟩) 0 0) [] := by
  rcases h with ⟨_, h0⟩ | ⟨g', off', cap, cs, hv, hb, hB, hnc, hcm, hoc, hcs⟩
  · cases h0
  · cases hv
    simp only [List.length_cons] at hnc
    exact ⟨List.eq_nil_of_length_eq_zero (by omega), .inr ⟨g, off, 0, cs, rfl, hb, hB, by simp, by simp, by omega, by simp⟩⟩

theorem Row.ne {g : Nat} {t : TypeId} {cs : List Value} (h : Row w base v l) (hg : Blk w g t cs) (ht : t ≠ 3) : some g ≠ v.ownBlock := by
  rcases h with ⟨rfl, _⟩ | ⟨g', off, cap, cs', rfl, hb, hB, _⟩
  · simp [Value.ownBlock]
  · intro e
    obtain rfl : g = g' := by simpa [Value.ownBlock] using e
    exact hg.ne hB ht rfl
theorem Row.ge (h : Row w base v l) : ∀ k, v.ownBlock = some k → base ≤ k := by
  rcases h with ⟨rfl, _⟩ | ⟨g', off, cap, cs', rfl, hb, hB, _⟩
  · simp [Value.ownBlock]
  · intro k e
    obtain rfl : g' = k := by simpa [Value.ownBlock] using e
    exact hb
/-- blocks of another kind stay -/
theorem Row.blk {g : Nat} {t : TypeId} {cs : List Value} (h : Row w base v l) (hgr : w.grownBy w' v.ownBlock) (hg : Blk w g t cs) (ht : t ≠ 3) : Blk w' g t cs :=
  (hgr.block g hg.lt (h.ne hg ht)).trans hg
end

set_option maxHeartbeats 1000000 in
/-- one more -/
theorem append_row {P : Program} {w : World} {ops : Array Oper} {rest : List Oper} {o : Oper} {a : Act} {Q : Exit → Act → World → Prop} (hgd : o.guard = none) (s x : Operand) (t : TypeId)
    (ho : o.op = .call { callee := .builtin .append, args := #[s, x], argTypes := #[t, t] })
    (base : Nat) (ht : P.underlying t = some (.slice 3)) (hinfo : (P.info? 3).map (fun i => (i.zero, i.size, i.bytes)) = some (some (.int .i64 0), 1, 8))
    (u : Value) (l : List Int) (hs : a.eval s = u) (hown : Row w base u l) (b : Nat) (y : Int) (hx : a.eval x = .slice (some ⟨b, 0, none⟩) 1 1) (hy : w.cell? ⟨b, 0, none⟩ = some (.int .i64 y))
    (hlen : l.length + 1 ≤ 17592186044416) (hbase : base ≤ w.heap.size)
    (h : ∀ u' w', Row w' base u' (l ++ [y]) → w.grownBy w' u.ownBlock → wpList P ops Q rest (a.put o.dst u') w') : wpList P ops Q (o :: rest) a w := by
  obtain ⟨i, hi, hz, hsz, hby⟩ := info_parts hinfo
  have hnews : ∀ j z, [Value.int .i64 y][j]? = some z → w.cell? ((⟨b, 0, none⟩ : Addr).add j) = some z := by
    intro j z hj
    match j, hj with
    | 0, hj =>
      simp at hj
      subst hj
      simpa [Addr.add] using hy
  rcases hown with ⟨rfl, rfl⟩ | ⟨g, off, cap, cs, rfl, hb, hB, hnc, hcm, hoc, hcs⟩
  · refine wpList_append_own w hgd s x t ho base 3 i (.int .i64 0) 1 8 ht hi hz hsz hby rfl (by decide) _ 0 [] hs (World.ownsRow_nil _ _ _ _) ⟨b, 0, none⟩ 1 1 [.int .i64 y] hx rfl hnews (by simp [Value.oneCell']) (by unfold maxLen; omega) (by omega) hbase ?_
    intro v' w' hown' hgrow _
    exact h v' w' (Row.of_owns (b := base) (by simpa using hown') rfl (Nat.le_refl _)) hgrow
  · refine wpList_append_arg w hgd s x t ho 3 i (.int .i64 0) 1 8 ht hi hz hsz hby rfl (by decide) g off l.length cap (l.map (Value.int .i64)) hs (by simp) ?_ ⟨b, 0, none⟩ 1 1 [.int .i64 y] hx rfl hnews (by simp [Value.oneCell']) ?_ (by unfold maxLen; omega) (by omega) ?_ ?_
    · intro j z hj
      have hjl : j < l.length := by
        have := (List.getElem?_eq_some_iff.1 hj).1
        simpa using this
      rw [hB.cell, hcs j hjl]
      simpa [hjl] using hj
    · intro hroom j hj
      obtain rfl : j = 0 := by simpa using hj
      refine ⟨?_, hB.free _⟩
      rw [hB.cell]
      simp
      omega
    · intro hroom
      have hc : w.setCells g (off + l.length * 1) [.int .i64 y] = w.setCell ⟨g, off + l.length, none⟩ (.int .i64 y) := by simp [World.setCells]
      rw [hc]
      have hB' := hB.set (off + l.length) (.int .i64 y)
      refine h _ _ (.inr ⟨g, off, cap, _, by simp, hb, hB', by simpa using hroom, hcm, by simpa using hoc, fun k hk => ?_⟩) ⟨rfl, rfl, rfl, by simp [World.setCell], fun k _ hk => Below.heap_setCell _ _ _ k (fun e => hk (by simp [Value.ownBlock, e]))⟩
      rw [List.length_append, List.length_singleton] at hk
      by_cases hkl : k < l.length
      · rw [List.getElem?_set_ne (by omega), hcs k hkl]
        simp [hkl, List.getElem?_append_left hkl]
      · obtain rfl : k = l.length := by omega
        rw [List.getElem?_set_self (by omega)]
        simp
    · intro hg v' w' hown' hgrow
      refine h v' w' (Row.of_owns (b := w.heap.size) (by simpa using hown') (by simp) hbase) ⟨hgrow.os, hgrow.tape, hgrow.output, hgrow.size, fun k hk _ => hgrow.block k hk (by simp)⟩
end Go.Proofs.Ytgfgcmncnnjepaa.hp

namespace Go.Proofs.Ytgfgcmncnnjepaa.lst
open Go Go.RowKit
/-- lists stay when a row of ints grows -/
theorem KeepC.row {w w' : World} {base : Nat} {v : Value} {l : List Int} (h : hp.Row w base v l) (hgr : w.grownBy w' v.ownBlock) : KeepC w w' := fun _ _ hg => h.blk hgr hg (by decide)
theorem IsList.keep {w w' : World} {B : Nat} {v : Value} {l : List Int} (hl : IsList w B v l) (h : KeepC w w') : IsList w' B v l := by
  obtain ⟨p, hv, hc, hw⟩ := hl
  exact ⟨p, hv, h.chain hc, hw⟩
end Go.Proofs.Ytgfgcmncnnjepaa.lst
