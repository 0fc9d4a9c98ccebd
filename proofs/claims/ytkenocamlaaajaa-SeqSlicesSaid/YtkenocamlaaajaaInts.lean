/- A slice of a list of numbers in memory, by the word 'sliced'. -/
import Derived.Test.YtkenocamlaaajaaHeap
import Derived.Laws.Slices
namespace Go.Proofs.Ytkenocamlaaajaa.hp
open Go Go.RowKit

theorem IsInts.sliced {w : World} {B : Nat} {a : Option Addr} {n c : Nat} {l : List Int} (h : IsInts w B (.slice a n c) l) {i j : Nat} (hij : i ≤ j) (hj : j ≤ l.length) : IsInts w B (Go.sliced a i j c 1) ((l.take j).drop i) := by
  obtain ⟨a', cap, hv, hn, hm, hw, hc⟩ := h
  cases hv
  have hl : ((l.take j).drop i).length = j - i := by simp; omega
  refine ⟨if c = i then a else a.map (·.add (i * 1)), c - i, by rw [hl]; rfl, ⟨fun h => ?_, by rw [hl]; omega⟩, by rw [hl]; omega, fun x hx => hw x (List.mem_of_mem_take (List.mem_of_mem_drop hx)), fun hp => ?_⟩
  · split at h
    · omega
    · rw [hn.1 (by cases a <;> simp_all)]; omega
  · rw [hl] at hp
    obtain ⟨b, off, rfl, hb, hd⟩ := hc (by omega)
    refine ⟨b, off + i, by rw [if_neg (by omega)]; simp [Addr.add], hb, fun k hk => ?_⟩
    rw [hl] at hk
    have := hd (i + k) (by omega)
    rw [show off + i + k = off + (i + k) by omega, this]
    have h1 : i + k < l.length := by omega
    have h2 : k < j - i := hk
    simp [List.getElem?_drop, h1, show i + k < j by omega]
theorem IsInts.from {w : World} {B : Nat} {a : Option Addr} {n c : Nat} {l : List Int} (h : IsInts w B (.slice a n c) l) {i : Nat} (hi : i ≤ l.length) : IsInts w B (Go.sliced a i l.length c 1) (l.drop i) := by
  have := h.sliced hi (Nat.le_refl _)
  rwa [List.take_length] at this
theorem row_one (w : World) (x : Int) : (w.alloc (.cells #[.int .i64 x] 3)).ownsRow w.heap.size 3 1 (.slice (some ⟨w.heap.size, 0, none⟩) 1 1) 1 ([x].map (Value.int .i64)) :=
  ⟨by simp, .inr ⟨w.heap.size, 1, #[.int .i64 x], rfl, Nat.le_refl _, heap_alloc_new w _, Nat.le_refl _, by simp [maxLen], by simp, by simp⟩⟩
end Go.Proofs.Ytkenocamlaaajaa.hp
