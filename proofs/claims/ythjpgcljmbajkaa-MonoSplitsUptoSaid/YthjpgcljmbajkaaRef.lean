/- The reference's lists. -/
import Derived.Test.YthjpgcljmbajkaaMono
namespace Go.Proofs.Ythjpgcljmbajkaa.ref
open Go.RowKit mono

theorem infoInt : (Try.prog.info? 3).map (fun i => (i.zero, i.size, i.bytes)) = some (some (.int .i64 0), 1, 8) := by kernel_rfl

theorem wf_append {a b : List Int} (ha : ∀ x ∈ a, (Lit.int .i64 x).wf = true) (hb : ∀ x ∈ b, (Lit.int .i64 x).wf = true) : ∀ x ∈ a ++ b, (Lit.int .i64 x).wf = true := by
  intro x hx
  rcases List.mem_append.1 hx with h | h
  · exact ha x h
  · exact hb x h

theorem cat_any (v0 : Value) (l0 : List Int) (v1 : Value) (l1 : List Int) (w : World) (h0 : hp.IsInts w w.heap.size v0 l0) (h1 : hp.IsInts w w.heap.size v1 l1) (hbd : l0.length + l1.length ≤ 17592186044416) :
    Calls Try.prog 13 #[v0, v1] w fun e w' => (∃ v, e = .returned v ∧ w'.ownsRow w.heap.size 3 1 v (l0 ++ l1).length ((l0 ++ l1).map (Value.int .i64))) ∧ Below w.heap.size w w' := by
  have own0 : w.ownsRow w.heap.size 3 1 (.slice none 0 0) 0 (([] : List Int).map (Value.int .i64)) := World.ownsRow_nil _ _ _ _
  go_enter Try.func13, Try.ntmps13
  go_wp2_with (at_builtin; refine hp.append_ints rfl _ _ 22 rfl w.heap.size 3 Try.underlying22 infoInt _ 0 [] rfl own0 _ l0 rfl h0 (by omega) (Nat.le_refl _) ?_)
  intro u1 w1 own1 gr1
  have hb1 : Below w.heap.size w w1 := (Below.refl _ _).grown gr1 (Nat.le_refl _) (by simp [Value.ownBlock])
  go_wp2_with (at_builtin; refine hp.append_ints rfl _ _ 22 rfl w.heap.size 3 Try.underlying22 infoInt _ _ _ rfl own1 _ l1 rfl (h1.below hb1) (by omega) hb1.size ?_)
  intro u2 w2 own2 gr2
  have hb2 : Below w.heap.size w w2 := hb1.grown gr2 hb1.size (fun k hk => (own1.lt k hk).1)
  go_wp2_with fail
  go_ret
  exact ⟨⟨_, rfl, by simpa using own2⟩, hb2⟩
end Go.Proofs.Ythjpgcljmbajkaa.ref
