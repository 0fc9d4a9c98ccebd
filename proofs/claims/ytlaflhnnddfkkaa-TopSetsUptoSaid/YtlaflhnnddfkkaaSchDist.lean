/- slices.Clone at []int; package search: Distinct. -/
import Derived.Test.YtlaflhnnddfkkaaComp
import Derived.Test.YtlaflhnnddfkkaaSame
import Derived.Lib.SliceRun
namespace Go.Proofs.Ytlaflhnnddfkkaa.sch
open Go Go.RowKit

set_option maxHeartbeats 4000000 in
theorem clone_nil (n c : Nat) (w : World) : Calls Try.prog 66 #[.slice none n c] w fun e w' => e = .returned (.slice none 0 0) ∧ w' = w := by
  have q22 : ∀ (w : World) (a : Option Addr) (n c n' c' : Nat), (binOp .eql 22 (.slice a n c) (.slice none n' c')).run Try.prog w = .ok (.bool a.isNone) w := fun w a n c n' c' => Lib.run_eql_slice_nil w _ _ a n c n' c' Try.underlying22
  go_enter Try.func66, Try.ntmps66
  go_wp2
  go_ret
  exact ⟨rfl, rfl⟩

set_option maxHeartbeats 4000000 in
theorem clone_some {ad : Addr} {n c : Nat} {l : List Int} {w : World} (hv : hp.IsInts w w.heap.size (.slice (some ad) n c) l) (hbd : l.length ≤ 17592186044416) :
    Calls Try.prog 66 #[.slice (some ad) n c] w fun e w' => (∃ v', e = .returned v' ∧ w'.ownsRow w.heap.size 3 1 v' l.length (l.map (Value.int .i64)) ∧ v' ≠ .slice none 0 0) ∧ Below w.heap.size w w' := by
  obtain ⟨i0, hi, hz0, hz1, hz2⟩ := info_parts same.infoInt
  obtain ⟨a', cap, he, hcp, hm, hwf, hc⟩ := hv
  cases he
  have hcell : Hid (∀ j, j < l.length → (w.alloc (.cells #[] 3)).cell? (ad.add j) = some (.int .i64 (l.getD j 0))) := by
    intro j hj
    obtain ⟨b, off, he, hb, hd⟩ := hc (by omega)
    cases he
    have h0 := hd j hj
    rw [Addr.add_lit]
    exact ((Below.refl w.heap.size w).alloc (Nat.le_refl _) _).cell (p := ⟨b, off + j, none⟩) hb |>.trans h0
  clear hc hwf
  have q22 : ∀ (w : World) (a : Option Addr) (n c n' c' : Nat), (binOp .eql 22 (.slice a n c) (.slice none n' c')).run Try.prog w = .ok (.bool a.isNone) w := fun w a n c n' c' => Lib.run_eql_slice_nil w _ _ a n c n' c' Try.underlying22
  go_enter Try.func66, Try.ntmps66
  go_wp2_with (at_builtin; refine wpList_append_own _ rfl _ _ 22 rfl w.heap.size 3 i0 (.int .i64 0) 1 8 Try.underlying22 hi hz0 hz1 hz2 rfl (by decide) _ _ _ rfl (World.ownsRow_made w #[] 0 (Nat.le_refl _) (Nat.zero_le _) rfl) ad l.length c (l.map (Value.int .i64)) rfl (by simp) ?qc2 (by intro u hu; obtain ⟨x, _, rfl⟩ := List.mem_map.1 hu; rfl) (by unfold maxLen; omega) (by omega) (by simp) ?_)
  case qc2 =>
    intro j u hj
    have hjl : j < l.length := by simpa using (List.getElem?_eq_some_iff.1 hj).1
    rw [hcell.out j hjl, ← hj]
    simp [List.getD, hjl]
  intro v' w1 hown hgrow hnil
  go_wp2
  go_ret
  refine ⟨⟨v', rfl, by simpa using hown, hnil⟩, ?_⟩
  exact ((Below.refl _ w).alloc (Nat.le_refl _) _).grown hgrow (by simp) (by intro k hk; simp [Value.ownBlock] at hk; omega)

set_option maxHeartbeats 4000000 in
theorem distinct_any {v : Value} {l : List Int} {w : World} (hv : hp.IsInts w w.heap.size v l) (hbd : l.length ≤ 17592186044416) :
    Calls Try.prog 49 #[v] w fun e w' => (∃ u, e = .returned u ∧ hp.IsInts w' w'.heap.size u (uniq l)) ∧ Below w.heap.size w w' := by
  have hwf := uniq_wf hv.wf
  have hsu : ∀ x, x ∈ bin.srt l ↔ x ∈ l := fun x => (bin.srt_perm l).mem_iff
  have hss := bin.srt_rises l
  have hsl := bin.srt_len l
  have hus : uniq (bin.srt l) = uniq l := uniq_of (uniq_asc _) fun x => by rw [mem_uniq, hsu]
  have hv' := hv
  obtain ⟨ad, cap, rfl, hn, -⟩ := hv'
  cases ad with
  | none =>
    have hl : l.length = 0 := by have := hn.1 rfl; omega
    obtain rfl : l = [] := List.eq_nil_of_length_eq_zero hl
    clear hv hn hus hsl hss hsu
    go_enter Try.func49, Try.ntmps49
    go_wp2_with (first
      | (go_at_call 66; (with_reducible refine (clone_nil _ _ _).mono ?_); rintro e w1 ⟨rfl, rfl⟩)
      | (go_at_call 67; (refine (cmpt.sort_empty _ _ _).mono ?_); rintro e w1 ⟨rfl, rfl⟩)
      | (go_at_call 68; (refine (cmpt.compact_empty _ _ _).mono ?_); rintro e w1 ⟨rfl, rfl⟩))
    go_ret
    exact ⟨⟨_, rfl, hp.IsInts.nil _ _⟩, Below.refl _ _⟩
  | some ad =>
    have hcl := clone_some hv hbd
    replace hwf := Lib.hid hwf
    obtain ⟨s, hs⟩ : ∃ s, bin.srt l = s := ⟨_, rfl⟩
    rw [hs] at hss hsl hus
    replace hus := Lib.hid hus
    clear hv hn hsu
    go_enter Try.func49, Try.ntmps49
    go_wp2_with (first
      | (go_at_call 66; (with_reducible refine hcl.mono ?_); clear hcl; rintro e w1 ⟨⟨v1, rfl, hr1, hne⟩, hb1⟩; obtain ⟨g, c1, rfl, -, -, -, -, -, -⟩ := Lib.holds_of_ownsRow hr1 hne; clear hne)
      | (go_at_call 67; (refine (srt.sort_own rfl hr1 (by omega)).mono ?_); rintro e w2 ⟨rfl, hr2, hgr⟩; have hb2 := hb1.grown hgr hb1.size (fun k hk => (hr1.lt k hk).1); rw [hs] at hr2; clear hr1 hgr)
      | (go_at_call 68; (refine (cmpt.compact_own hsl hss hr2 (by omega)).mono ?_); rintro e w3 ⟨rfl, hr3, hb3⟩))
    go_ret
    refine ⟨⟨_, rfl, ?_⟩, hb3 _ _ hb2 (Nat.le_refl _)⟩
    rw [hus.out] at hr3 ⊢
    exact hp.IsInts.of_owns hr3 rfl hwf.out
end Go.Proofs.Ytlaflhnnddfkkaa.sch
