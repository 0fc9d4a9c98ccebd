/- Package finger: Split. -/
import Derived.Test.YtfbeiimmcemniaaPriSplit3
namespace Go.Proofs.Ytfbeiimmcemniaa.pri
open Go Go.RowKit

/-- what Split of a tree gives, whatever is asked -/
def Cut (f : List (Int × Int) → Bool) (L X Y : List (Int × Int)) : Prop := X ++ Y = L ∧ (f [] = true → X = []) ∧ (f [] = false → f L = false → Y = []) ∧ (f [] = false → f L = true → f X = false ∧ ∃ x Z, Y = x :: Z ∧ f (X ++ [x]) = true)
def MCut (w' : World) (e : Ending) (f : List (Int × Int) → Bool) (L : List (Int × Int)) : Prop := ∃ (a b : Option Addr) (X Y : List (Int × Int)), e = .returned (.tuple #[.agg #[.pointer a], .agg #[.pointer b]]) ∧ IsL Any w' (.pointer a) 0 X ∧ IsL Any w' (.pointer b) 0 Y ∧ Cut f L X Y
theorem mSplit_any (bq : Nat) (N : Nat) (f : List (Int × Int) → Bool) (p : Option Addr) (L : List (Int × Int)) (w : World) (h : IsL Any w (.pointer p) 0 L) (hN : L.length ≤ N) (hN2 : N ≤ 4611686018427387904) (hf : Asks w bq N f) :
    Calls Try.prog 25 #[.agg #[.pointer p], qv bq] w fun e w' => MCut w' e f L ∧ Below w.heap.size w w' := by
  by_cases hL : L = []
  · obtain ⟨_, t, e, h1, h2, h3⟩ := h
    cases e
    have ht : t = .nil := by
      cases t with
      | nil => rfl
      | one x => have := h2.pos; rw [show x.nums = L from h3, hL] at this; simp at this
      | deep a i b =>
        obtain ⟨⟨a1, _, ah⟩, _⟩ := h2
        have := ah.size
        have h4 : flat a ++ i.nums ++ flat b = [] := h3.trans hL
        have h5 := congrArg List.length h4
        rw [List.length_append, List.length_append, List.length_nil] at h5
        simp at this
        omega
    subst ht
    obtain rfl : p = none := h1
    refine (mSplit_yes bq N f none w hf (.inl rfl)).mono ?_
    rintro e w' ⟨rfl, hb⟩
    subst hL
    refine ⟨⟨none, none, [], [], rfl, IsL.nil _ _ _, IsL.nil _ _ _, rfl, fun _ => rfl, fun _ _ => rfl, fun a b => ?_⟩, hb⟩
    rw [a] at b
    cases b
  · obtain ⟨b0, h0⟩ : ∃ b, f [] = b := ⟨_, rfl⟩
    cases b0
    · obtain ⟨b1, h1⟩ : ∃ b, f L = b := ⟨_, rfl⟩
      cases b1
      · refine (mSplit_no bq N f p L w h hL hN hf h0 h1).mono ?_
        rintro e w' ⟨rfl, hb⟩
        refine ⟨⟨p, none, L, [], rfl, h.on hb, IsL.nil _ _ _, by simp, fun a => ?_, fun _ _ => rfl, fun _ b => ?_⟩, hb⟩
        · rw [h0] at a; cases a
        · rw [h1] at b; cases b
      · refine (mSplit_at bq N f p L w h hL hN hN2 hf h0 h1).mono ?_
        rintro e w' ⟨⟨a, b, X, x, Y, rfl, ha, hb', o1, t1, t2⟩, hb⟩
        refine ⟨⟨a, b, X, x :: Y, rfl, ha, hb', o1, fun c => ?_, fun _ c => ?_, fun _ _ => ⟨t1, x, Y, rfl, t2⟩⟩, hb⟩
        · rw [h0] at c; cases c
        · rw [h1] at c; cases c
    · have hp : ∃ g, p = some ⟨g, 0, none⟩ := by
        obtain ⟨_, t, e, h1, h2, h3⟩ := h
        cases e
        obtain ⟨g, _, _, _, hg, _⟩ := h1.first (by rintro rfl; exact hL h3.symm)
        exact ⟨g, hg⟩
      refine (mSplit_yes bq N f p w hf (.inr ⟨hp, h0⟩)).mono ?_
      rintro e w' ⟨rfl, hb⟩
      refine ⟨⟨none, p, [], L, rfl, IsL.nil _ _ _, h.on hb, rfl, fun _ => rfl, fun a => ?_, fun a => ?_⟩, hb⟩
      · rw [h0] at a; cases a
      · rw [h0] at a; cases a
end Go.Proofs.Ytfbeiimmcemniaa.pri
