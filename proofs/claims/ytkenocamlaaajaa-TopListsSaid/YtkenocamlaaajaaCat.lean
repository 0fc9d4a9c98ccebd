/- slices.Grow of nil, slices.Concat of two lists of numbers. -/
import Derived.Test.YtkenocamlaaajaaSame
namespace Go.Proofs.Ytkenocamlaaajaa.cat
open Go Go.RowKit

/-- append(nil, make([]T, n)...) -/
theorem run_append_zeros {P : Program} (w : World) (t tn ty e : TypeId) (k : IntKind) (i : TypeInfo) (z : Value) (ht : P.underlying t = some (.slice e)) (htn : P.underlying tn = some (.int k)) (hi : P.info? e = some i) (hz : i.zero = some z) (hz1 : z.cells.size = 1) (hs : i.size = 1) (hby : i.bytes = 8)
    (n : Nat) (h0 : 0 < n) (hbd : n ≤ 35184372088832) :
    ∃ cur : Array Value, (Builtin.append_ #[t, tn] ty #[.slice none 0 0, .int .i64 n]).run P w = .ok (.slice (some ⟨w.heap.size, 0, none⟩) n (grownCap w n 0 e)) (w.drew.alloc (.cells cur e)) ∧ cur.size = grownCap w n 0 e := by
  have hn : n ≠ 0 := by omega
  have wl : IntKind.i64.wrap (n : Int) = n := by rw [IntKind.wrap_i64]; omega
  have n1 : ¬ ((n : Int) < 0) := by omega
  have n2 : ¬ (281474976710656 < (n : Int) * 8) := by omega
  have h63' : ¬ (9223372036854775807 < (n : Int)) := by omega
  have h48' : ¬ (281474976710656 < Builtin.nextslicecap n 0 * 8) := by rw [nextslicecap_zero h0]; omega
  have hge := grownCap_ge w n 0 e
  refine ⟨Builtin.zeroCells z.cells n ++ Builtin.zeroCells z.cells (grownCap w n 0 e - n), ?_, ?_⟩
  · simp [Builtin.append_, run_underlying ht, run_underlying htn, asInt, asIntOf, sizeOf, typeInfo, zeroValue, hi, hz, hs, hby, wl, n1, n2, hn, h63', h48', Question.forced, run_firstCells_none, newRow, grownCap]
  · simp [size_zeroCells, hz1]
    omega

theorem wpList_append_zeros {P : Program} {w : World} {ops : Array Oper} {rest : List Oper} {o : Oper} {a : Act} {Q : Exit → Act → World → Prop} (hgd : o.guard = none) (s x : Operand) (t tn : TypeId)
    (ho : o.op = .call { callee := .builtin .append, args := #[s, x], argTypes := #[t, tn] })
    (base : Nat) (e : TypeId) (k : IntKind) (ht : P.underlying t = some (.slice e)) (htn : P.underlying tn = some (.int k)) (hinfo : (P.info? e).map (fun i => (i.zero, i.size, i.bytes)) = some (some (.int .i64 0), 1, 8))
    (hs : a.eval s = .slice none 0 0) (n : Nat) (hx : a.eval x = .int .i64 n) (h0 : 0 < n) (hbd : n ≤ 35184372088832) (hbase : base ≤ w.heap.size)
    (h : ∀ cap w', n ≤ cap → w'.ownsRow base e 1 (.slice (some ⟨w.heap.size, 0, none⟩) 0 cap) 0 [] → Below w.heap.size w w' → wpList P ops Q rest (a.put o.dst (.slice (some ⟨w.heap.size, 0, none⟩) n cap)) w') : wpList P ops Q (o :: rest) a w := by
  obtain ⟨i, hi, hz, hsz, hby⟩ := info_parts hinfo
  refine wpList_plain hgd fun K hK => ?_
  obtain ⟨cur, hrun, hcs⟩ := run_append_zeros (P := P) w t tn o.type e k i (.int .i64 0) ht htn hi hz rfl hsz hby n h0 hbd
  have hge := grownCap_ge w n 0 e
  have hle := grownCap_le_maxLen w n 0 e (by simp [maxLen]; omega)
  unfold Oper.wp
  simp [execOp, ho, resolve, invoke, builtin, hs, hx, hrun, Result.andThen]
  refine hK _ _ (h _ _ hge ?_ ?_)
  · have := World.ownsRow_made (e := e) (size := 1) (base := base) w.drew cur (grownCap w n 0 e) hbase hle (by rw [hcs]; omega)
    simpa using this
  · exact (Below.refl _ _).drew.alloc (Nat.le_refl _) _

set_option maxHeartbeats 4000000 in
theorem grow_nil (n : Nat) (w : World) (hn : n ≤ 35184372088832) :
    Calls Try.prog 67 #[.slice none 0 0, .int .i64 n] w fun e w' => (∃ u, e = .returned u ∧ w'.ownsRow w.heap.size 3 1 u 0 []) ∧ Below w.heap.size w w' := by
  go_enter Try.func67, Try.ntmps67
  by_cases h0 : 0 < n
  · go_wp2_with (at_builtin; refine wpList_append_zeros rfl _ _ 22 3 rfl w.heap.size 3 .i64 Try.underlying22 Try.underlying3 same.infoInt rfl n rfl h0 hn (Nat.le_refl _) ?_; intro cap w1 hcap hown hb1)
    go_ret
    exact ⟨⟨_, rfl, hown⟩, hb1⟩
  · obtain rfl : n = 0 := by omega
    go_wp2_with fail
    go_ret
    exact ⟨⟨_, rfl, World.ownsRow_nil _ _ _ _⟩, Below.refl _ _⟩
end Go.Proofs.Ytkenocamlaaajaa.cat
