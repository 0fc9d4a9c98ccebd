/- The walk of SkewBack. -/
import Derived.Test.YtokfogeplifedaaSkOps
namespace Go.Proofs.Ytokfogeplifedaa.skewBack
open Go Go.RowKit sk
set_option linter.unusedVariables false

theorem value_any {v : Value} {l : List Int} {w : World} (hv : hp.IsInts w w.heap.size v l) : ∃ x e, ((e = .nilIface ∧ Ok l ∧ x = sum l ∧ 0 ≤ x ∧ x ≤ 2199023255550) ∨ e = err 3) ∧
    ∀ W, Below w.heap.size w W → Calls Try.prog 7 #[v] W fun r w' => r = .returned (.tuple #[.int .i64 x, e]) ∧ Below W.heap.size W w' := by
  by_cases h : Ok l
  · exact ⟨sum l, .nilIface, .inl ⟨rfl, h, rfl, h.nonneg, h.le⟩, fun W hb => value_ok (hv.on hb) h⟩
  · exact ⟨0, err 3, .inr rfl, fun W hb => value_bad (hv.on hb) h⟩

set_option maxHeartbeats 8000000 in
theorem walk (n : Int) (v1 : Value) (l1 : List Int) (v2 : Value) (l2 : List Int) (w : World) (wn : (Lit.int .i64 n).wf = true) (i1 : hp.IsInts w w.heap.size v1 l1) (i2 : hp.IsInts w w.heap.size v2 l2) :
    Calls Try.prog 3 #[.int .i64 n, v1, v2] w fun e w' => e = .returned (.bool true) ∧ Below w.heap.size w w' := by
  have K := Below.refl w.heap.size w
  obtain ⟨x, e1, F1, V1⟩ := value_any i1
  obtain ⟨y, e2, F2, V2⟩ := value_any i2
  have hI : ∀ W, Below w.heap.size w W → Calls Try.prog 8 #[v1, v2] W fun r w' => r = .returned (.bool (decide (l1 = l2))) ∧ Below W.heap.size W w' := fun W hb => same.ints_raw _ _ _ _ _ _ (by exact rfl) (i1.on hb) (i2.on hb)
  have hxy : Ok l1 → Ok l2 → x = sum l1 → y = sum l2 → decide (l1 = l2) = (x == y) := by
    rintro h1 h2 rfl rfl
    by_cases h : l1 = l2
    · subst h; simp
    · have : ¬ sum l1 = sum l2 := fun e => h (h1.one _ h2 e)
      simp [h, this]
  generalize decide (l1 = l2) = r at *
  clear i1 i2 wn
  have hsp : (e1 = .nilIface ∧ Ok l1 ∧ x = sum l1 ∧ 0 ≤ x ∧ x ≤ 2199023255550 ∧ x ≤ 1099511627776 ∧ e2 = .nilIface ∧ Ok l2 ∧ y = sum l2 ∧ 0 ≤ y ∧ y ≤ 2199023255550 ∧ y ≤ 1099511627776) ∨ (e1 = err 3 ∨ (e1 = .nilIface ∧ (e2 = err 3 ∨ e2 = .nilIface ∧ (¬ x ≤ 1099511627776 ∨ (x ≤ 1099511627776 ∧ ¬ y ≤ 1099511627776))))) := by
    rcases F1 with ⟨rfl, a⟩ | rfl
    · rcases F2 with ⟨rfl, b⟩ | rfl
      · by_cases h1 : x ≤ 1099511627776
        · by_cases h2 : y ≤ 1099511627776
          · exact .inl ⟨rfl, a.1, a.2.1, a.2.2.1, a.2.2.2, h1, rfl, b.1, b.2.1, b.2.2.1, b.2.2.2, h2⟩
          · exact .inr (.inr ⟨rfl, .inr ⟨rfl, .inr ⟨h1, h2⟩⟩⟩)
        · exact .inr (.inr ⟨rfl, .inr ⟨rfl, .inl h1⟩⟩)
      · exact .inr (.inr ⟨rfl, .inl rfl⟩)
    · exact .inr (.inl rfl)
  clear F1 F2
  by_cases hn : 0 ≤ n ∧ n ≤ 1099511627776
  all_goals obtain ⟨rfl, ok1, hx, x1, x2, hx3, rfl, ok2, hy, y1, y2, hy3⟩ | hbad := hsp
  all_goals try rcases hbad with rfl | ⟨rfl, rfl | ⟨rfl, hx3 | ⟨hx3, hy3⟩⟩⟩
  all_goals try replace hxy := hxy ok1 ok2 hx hy
  all_goals try subst hxy
  all_goals try clear hx
  all_goals try clear hy
  all_goals try replace ok1 := Lib.hid ok1
  all_goals try replace ok2 := Lib.hid ok2
  all_goals (
    go_enter Try.func3, Try.ntmps3
    go_wp2_with (first
      | (go_at_call 5; refine (skewed_any _).mono ?_; rintro e wa ⟨rfl, hb⟩; replace K := K.trans (hb.mono K.size); clear hb)
      | (go_at_call 6; refine (digits_any hn.1 hn.2).mono ?_; rintro e wb ⟨⟨u, t, rfl, hu, ht, hts⟩, hb⟩; replace K := K.trans (hb.mono K.size); clear hb; have hlen := ht.length; have hu' := hu; obtain ⟨ua, uc, rfl, -⟩ := hu')
      | (go_at_call 6; refine (digits_bad (by omega)).mono ?_; rintro e wb ⟨rfl, hb⟩; replace K := K.trans (hb.mono K.size); clear hb)
      | (go_at_call 7; with_reducible refine (V1 _ K).mono ?_; rintro e wc ⟨rfl, hb⟩; replace K := K.trans (hb.mono K.size); clear hb)
      | (go_at_call 7; with_reducible refine (V2 _ K).mono ?_; rintro e wc ⟨rfl, hb⟩; replace K := K.trans (hb.mono K.size); clear hb)
      | (go_at_call 7; refine (value_ok hu ht).mono ?_; rw [hts]; rintro e wc ⟨rfl, hb⟩; replace K := K.trans (hb.mono K.size); clear hb)
      | (go_at_call 8; refine (hI _ K).mono ?_; rintro e wc ⟨rfl, hb⟩; replace K := K.trans (hb.mono K.size); clear hb))
    go_ret
    refine ⟨?_, K⟩
    first | rfl | (trace_state; fail))
end Go.Proofs.Ytokfogeplifedaa.skewBack
