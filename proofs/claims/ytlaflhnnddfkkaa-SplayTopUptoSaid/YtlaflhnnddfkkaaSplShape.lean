/- Package splay: Shape. -/
import Derived.Test.YtlaflhnnddfkkaaSplInts
import Derived.Test.YtlaflhnnddfkkaaSchShapeW
import Derived.Test.YtlaflhnnddfkkaaSchHigh
namespace Go.Proofs.Ytlaflhnnddfkkaa.spl
open Go Go.RowKit
open Go.Proofs.Ytlaflhnnddfkkaa.sch

set_option maxHeartbeats 4000000 in
theorem set_shape {G : Tr → Prop} {v : Value} {l : List Int} {w : World} (hv : IsSetG G w w.heap.size v l) (hbd : l.length ≤ 2097152) :
    Calls Try.prog 21 #[v] w fun e w' => (∃ u t, e = .returned u ∧ G t ∧ keys t = l ∧ IsNds w' w'.heap.size u (shp t 0)) ∧ Below w.heap.size w w' := by
  obtain ⟨p, t, rfl, hn, hi, hk, -, -⟩ := hv
  have hcl := fun W (hW : Below w.heap.size w W) => shape_any (hn.grow hW hW.size) (by rw [hk]; exact hbd)
  clear hn hbd
  have hb0 := (Below.refl w.heap.size w).alloc (Nat.le_refl _) (.cells #[.pointer p, .int .i64 l.length] tyH)
  go_enter Try.func21, Try.ntmps21
  go_wp2_with (go_at_call 48; (with_reducible refine (hcl _ hb0).mono ?_); clear hcl; rintro e w1 ⟨⟨u, rfl, hu⟩, hb⟩)
  go_ret
  exact ⟨⟨_, t, rfl, hi, hk, IsNds.of_row hu (shp_len t 0)⟩, hb0.trans (hb.mono (by simp))⟩

/-- each place tells a tree -/
theorem sub_at {P : Tr → Prop} (hP : ∀ x m l r, P (.node x m l r) → P l ∧ P r) {ns : List Nd} : ∀ (t : Tr) (o : Nat), At ns t o → P t → ∀ i, o ≤ i → i < o + (keys t).length → ∃ x m l r, At ns (.node x m l r) i ∧ P (.node x m l r)
  | .nil, o, _, _, i, h1, h2 => by simp [keys] at h2; omega
  | .node x m l r, o, hat, hp, i, h1, h2 => by
    obtain ⟨-, -, hal, har⟩ := hat.node
    obtain ⟨pl, pr⟩ := hP _ _ _ _ hp
    simp only [keys, List.length_append, List.length_cons] at h2
    by_cases e : i = o
    · subst e
      exact ⟨x, m, l, r, hat, hp⟩
    · by_cases e2 : i < o + 1 + (keys l).length
      · exact sub_at hP l _ hal pl i (by omega) (by omega)
      · exact sub_at hP r _ har pr i (by omega) (by omega)
end Go.Proofs.Ytlaflhnnddfkkaa.spl
