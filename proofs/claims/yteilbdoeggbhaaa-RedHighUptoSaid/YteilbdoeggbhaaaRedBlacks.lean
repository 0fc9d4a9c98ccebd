/- Package red: how high, how many; wattleworkref1: Blacks. -/
import Derived.Test.YteilbdoeggbhaaaRedShape
namespace Go.Proofs.Yteilbdoeggbhaaa.red
open Go Go.RowKit
open Go.Proofs.Yteilbdoeggbhaaa.sch

theorem bh_ge (m : Int) (k : Nat) : k ≤ bh m k := by unfold bh; split <;> omega
/-- 2, taken n times, less one: at least so many numbers -/
theorem Rb.many : ∀ {t : Tr} {n : Nat}, Rb t n → 2 ^ n ≤ (keys t).length + 1
  | .nil, n, h => by
    obtain rfl : n = 0 := h
    simp [keys]
  | .node x m l r, n, ⟨_, k, e, hl, hr, _⟩ => by
    have h1 := hl.many
    have h2 := hr.many
    subst e
    simp only [keys, List.length_append, List.length_cons]
    unfold bh
    split
    · omega
    · rw [Nat.pow_succ]
      omega
theorem Rb.few {t : Tr} {n : Nat} (h : Rb t n) : n ≤ (keys t).length := by
  have h1 := h.many
  have h2 : n < 2 ^ n := Nat.lt_two_pow_self
  omega
/-- not higher than twice -/
theorem Rb.high : ∀ {t : Tr} {n : Nat}, Rb t n → hgt t ≤ 2 * n + (if top t = 1 then 1 else 0)
  | .nil, n, h => by simp [hgt]
  | .node x m l r, n, ⟨hm, k, e, hl, hr, hc⟩ => by
    have h1 := hl.high
    have h2 := hr.high
    subst e
    simp only [hgt, top]
    rcases hm with rfl | rfl
    · rw [bh_black]
      have h3 : (if top l = 1 then 1 else 0) ≤ 1 := by split <;> omega
      have h4 : (if top r = 1 then 1 else 0) ≤ 1 := by split <;> omega
      simp
      omega
    · obtain ⟨c1, c2⟩ := hc rfl
      rw [if_neg c1] at h1
      rw [if_neg c2] at h2
      rw [bh_red]
      simp
      omega

set_option maxHeartbeats 4000000 in
theorem blacks_any {ns : List Nd} (hs : ns.length ≤ 1048576) : ∀ (t : Tr) (o n : Nat) (v : Value) (w : World), IsNds w w.heap.size v ns → At ns t o → Rb t n →
    Calls Try.prog 22 #[v, .int .i64 (idx t o)] w fun e w' => e = .returned (.int .i64 (n : Int)) ∧ Below w.heap.size w w' := by
  intro t
  induction t with
  | nil =>
    rintro o n v w ⟨a, cap, rfl, -⟩ - hn
    obtain rfl : n = 0 := hn
    show Calls _ _ #[_, .int .i64 (-1)] _ _
    go_enter Try.func22, Try.ntmps22
    go_wp2_with fail
    go_ret
    exact ⟨rfl, Below.refl _ _⟩
  | node x m l r ihl ihr =>
    rintro o n v w hv hat ⟨hm, k, e, hbl, hbr, -⟩
    have hlen := hat.len
    obtain ⟨ho, hn, hal, har⟩ := hat.node
    obtain ⟨g, cap, rfl, hg, -, q1, q2, q3⟩ := hv.at hn
    simp only at q1 q2 q3
    have hl1 := fun W (hW : Below w.heap.size w W) => ihl _ k _ W (hv.on hW) hal hbl
    have hr1 := fun W (hW : Below w.heap.size w W) => ihr _ k _ W (hv.on hW) har hbr
    have z1 := hbl.few
    show Calls _ _ #[_, .int .i64 (o : Int)] _ fun e w' => e = .returned (.int .i64 (n : Int)) ∧ _
    simp only [keys, List.length_append, List.length_cons] at hlen
    generalize idx l (o + 1) = li at *
    generalize idx r (o + 1 + (keys l).length) = ri at *
    obtain ⟨N, hN⟩ : ∃ N, ns.length = N := ⟨_, rfl⟩
    rw [hN] at ho hs hl1 hr1 ⊢
    have hk2 : k ≤ 1048576 := by omega
    have K := Below.refl w.heap.size w
    have c1 := q1
    rcases hm with rfl | rfl
    · rw [bh_black] at e
      subst e
      rw [show ((k + 1 : Nat) : Int) = (k : Int) + 1 by omega]
      clear ihl ihr hv hat hn hal har z1 hlen hN hbl hbr
      go_enter Try.func22, Try.ntmps22
      go_wp2_with (first
        | (go_at_call 22; (with_reducible refine (hl1 _ K).mono ?_); clear hl1 c1; rintro e w1 ⟨rfl, hb⟩; replace K := K.trans (hb.mono K.size); clear hb; have c2 := (K.cell (p := ⟨g, o * 4 + 2, none⟩) hg).trans q2; have hg2 := Nat.lt_of_lt_of_le hg K.size)
        | (go_at_call 22; (with_reducible refine (hr1 _ K).mono ?_); clear hr1 c2 hg2; rintro e w2 ⟨rfl, hb⟩; replace K := K.trans (hb.mono K.size); clear hb; have c3 := (K.cell (p := ⟨g, o * 4 + 3, none⟩) hg).trans q3; have hg2 := Nat.lt_of_lt_of_le hg K.size))
      go_ret
      exact ⟨rfl, K⟩
    · rw [bh_red] at e
      subst e
      clear ihl ihr hv hat hn hal har z1 hlen hN hbl hbr
      go_enter Try.func22, Try.ntmps22
      go_wp2_with (first
        | (go_at_call 22; (with_reducible refine (hl1 _ K).mono ?_); clear hl1 c1; rintro e w1 ⟨rfl, hb⟩; replace K := K.trans (hb.mono K.size); clear hb; have c2 := (K.cell (p := ⟨g, o * 4 + 2, none⟩) hg).trans q2; have hg2 := Nat.lt_of_lt_of_le hg K.size)
        | (go_at_call 22; (with_reducible refine (hr1 _ K).mono ?_); clear hr1 c2 hg2; rintro e w2 ⟨rfl, hb⟩; replace K := K.trans (hb.mono K.size); clear hb; have c3 := (K.cell (p := ⟨g, o * 4 + 3, none⟩) hg).trans q3; have hg2 := Nat.lt_of_lt_of_le hg K.size))
      go_ret
      exact ⟨rfl, K⟩
end Go.Proofs.Yteilbdoeggbhaaa.red
