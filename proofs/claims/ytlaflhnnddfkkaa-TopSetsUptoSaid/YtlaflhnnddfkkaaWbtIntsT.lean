/- Package wbt: Ints. -/
import Derived.Test.YtlaflhnnddfkkaaWbtSetT
import Derived.Test.YtlaflhnnddfkkaaSchEach
namespace Go.Proofs.Ytlaflhnnddfkkaa.wbt
open Go Go.RowKit
open Go.Proofs.Ytlaflhnnddfkkaa.sch

set_option maxHeartbeats 4000000 in
theorem ints_own {v : Value} {l : List Int} {w : World} (hv : IsSet w w.heap.size v l) (hbd : l.length ≤ 17592186044416) :
    Calls Try.prog 34 #[v] w fun e w' => (∃ u, e = .returned u ∧ w'.ownsRow w.heap.size 3 1 u l.length (l.map (Value.int .i64))) ∧ Below w.heap.size w w' := by
  obtain ⟨p, t, rfl, hn, -, hk, -, -⟩ := hv
  have hcl := fun W (hW : Below w.heap.size w W) => tree_ints (hn.grow hW hW.size) (by rw [hk]; exact hbd)
  rw [hk] at hcl
  clear hn hk hbd
  have hb0 := (Below.refl w.heap.size w).alloc (Nat.le_refl _) (.cells #[.pointer p] tyH)
  go_enter Try.func34, Try.ntmps34
  go_wp2_with (go_at_call 44; (with_reducible refine (hcl _ hb0).mono ?_); clear hcl; rintro e w1 ⟨⟨u, rfl, hu⟩, hb⟩)
  go_ret
  refine ⟨⟨_, rfl, hu.1, ?_⟩, hb0.trans (hb.mono (by simp))⟩
  rcases hu.2 with h | ⟨g, cap, cur, h1, h2, h3⟩
  · exact .inl h
  · exact .inr ⟨g, cap, cur, h1, by have := hb0.size; omega, h3⟩

theorem ints_any {v : Value} {l : List Int} {w : World} (hv : IsSet w w.heap.size v l) (hbd : l.length ≤ 17592186044416) :
    Calls Try.prog 34 #[v] w fun e w' => (∃ u, e = .returned u ∧ hp.IsInts w' w'.heap.size u l) ∧ Below w.heap.size w w' :=
  (ints_own hv hbd).mono fun _ _ ⟨⟨u, he, hu⟩, hb⟩ => ⟨⟨u, he, hp.IsInts.of_owns hu rfl hv.wf⟩, hb⟩
end Go.Proofs.Ytlaflhnnddfkkaa.wbt
