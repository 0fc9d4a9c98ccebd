/- wattleworksame.Nodes: two rows of nodes that are told alike. -/
import Derived.Test.YtdlelifidlfalaaSchHigh
namespace Go.Proofs.Ytdlelifidlfalaa.sch
open Go Go.RowKit
set_option linter.unusedVariables false

set_option maxHeartbeats 4000000 in
theorem nodes_eq {v0 v1 : Value} {ns : List Nd} {w : World} (h0 : IsNds w w.heap.size v0 ns) (h1 : IsNds w w.heap.size v1 ns) (hl : ns.length < 4611686018427387904) :
    Calls Try.prog 24 #[v0, v1] w fun e w' => e = .returned (.bool true) ∧ Below w.heap.size w w' := by
  have h0' := h0
  have h1' := h1
  obtain ⟨a0, c0, rfl, -⟩ := h0'
  obtain ⟨a1, c1, rfl, -⟩ := h1'
  obtain ⟨N, hN⟩ : ∃ N, ns.length = N := ⟨_, rfl⟩
  have hat : ∀ o, o < ns.length → ∃ n : Nd, (∃ g cap, Value.slice a0 ns.length c0 = .slice (some ⟨g, 0, none⟩) ns.length cap ∧ g < w.heap.size ∧ w.cell? ⟨g, o * 4, none⟩ = some (.int .i64 n.k) ∧ w.cell? ⟨g, o * 4 + 1, none⟩ = some (.int .i64 n.l) ∧ w.cell? ⟨g, o * 4 + 2, none⟩ = some (.int .i64 n.r) ∧ w.cell? ⟨g, o * 4 + 3, none⟩ = some (.int .i64 n.m)) ∧ (∃ g cap, Value.slice a1 ns.length c1 = .slice (some ⟨g, 0, none⟩) ns.length cap ∧ g < w.heap.size ∧ w.cell? ⟨g, o * 4, none⟩ = some (.int .i64 n.k) ∧ w.cell? ⟨g, o * 4 + 1, none⟩ = some (.int .i64 n.l) ∧ w.cell? ⟨g, o * 4 + 2, none⟩ = some (.int .i64 n.r) ∧ w.cell? ⟨g, o * 4 + 3, none⟩ = some (.int .i64 n.m)) :=
    fun o ho => ⟨ns[o], h0.at (by simp [ho]), h1.at (by simp [ho])⟩
  rw [hN] at hl hat ⊢
  clear h0 h1 hN
  go_enter Try.func24, Try.ntmps24
  go_wp2_with fail
  go_loopg [5] N (fun k u W' => ∃ i : Nat, u = .int .i64 (i : Int) ∧ i ≤ N ∧ k = N - i ∧ Below w.heap.size w W')
  case atStart => exact ⟨0, rfl, Nat.zero_le _, rfl, Below.refl _ _⟩
  case round =>
    obtain ⟨i, rfl, hi, hk, hb⟩ := hrel
    by_cases hlt : i < N
    · obtain ⟨n, ⟨g, cap, he, hg, p0, p1, p2, p3⟩, ⟨g', cap', he', hg', q0, q1, q2, q3⟩⟩ := hat i hlt
      cases he
      cases he'
      obtain ⟨nk, nl, nr, nm⟩ := n
      simp only at p0 p1 p2 p3 q0 q1 q2 q3
      replace p0 := (hb.cell (p := ⟨g, i * 4, none⟩) hg).trans p0
      replace p1 := (hb.cell (p := ⟨g, i * 4 + 1, none⟩) hg).trans p1
      replace p2 := (hb.cell (p := ⟨g, i * 4 + 2, none⟩) hg).trans p2
      replace p3 := (hb.cell (p := ⟨g, i * 4 + 3, none⟩) hg).trans p3
      replace q0 := (hb.cell (p := ⟨g', i * 4, none⟩) hg').trans q0
      replace q1 := (hb.cell (p := ⟨g', i * 4 + 1, none⟩) hg').trans q1
      replace q2 := (hb.cell (p := ⟨g', i * 4 + 2, none⟩) hg').trans q2
      replace q3 := (hb.cell (p := ⟨g', i * 4 + 3, none⟩) hg').trans q3
      have hgw := Nat.lt_of_lt_of_le hg hb.size
      have hgw' := Nat.lt_of_lt_of_le hg' hb.size
      clear hat
      go_wp2_with fail
      go_big_region
      go_wp2_with fail
      go_roundg (N - (i + 1))
      case measure => omega
      case rel => exact ⟨i + 1, by simp, by omega, rfl, hb.drew⟩
    · obtain rfl : i = N := by omega
      clear hat
      go_wp2_with fail
      go_ret
      exact ⟨rfl, hb⟩
end Go.Proofs.Ytdlelifidlfalaa.sch
