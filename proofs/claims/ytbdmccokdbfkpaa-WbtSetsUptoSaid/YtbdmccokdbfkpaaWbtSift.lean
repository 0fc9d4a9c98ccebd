/- wattleworkref1: Sifted, of any two lists. -/
import Derived.Test.YtbdmccokdbfkpaaWbtTr
import Derived.Test.YtbdmccokdbfkpaaOnce
namespace Go.Proofs.Ytbdmccokdbfkpaa.wbt
open Go Go.RowKit Go.Proofs.Ytbdmccokdbfkpaa.sch Go.Proofs.Ytbdmccokdbfkpaa.same

theorem cho_snoc (f : Bool) (m l : List Int) (y : Int) : cho f (l ++ [y]) m = if decide (y ∈ m) = f then cho f l m ++ [y] else cho f l m := by
  unfold cho
  rw [List.filter_append]
  by_cases h : decide (y ∈ m) = f
  · rw [if_pos h, List.filter_cons_of_pos (by simpa using h)]; simp
  · rw [if_neg h, List.filter_cons_of_neg (by simpa using h)]; simp

set_option maxHeartbeats 8000000 in
theorem sift_own {v u0 : Value} {l m : List Int} {f : Bool} {w : World} (hv : hp.IsInts w w.heap.size v l) (hu0 : hp.IsInts w w.heap.size u0 m) (hbd : l.length < 17592186044416) (hbm : m.length < 17592186044416) :
    Calls Try.prog 13 #[v, u0, .bool f] w fun e w' => (∃ u, e = .returned u ∧ w'.ownsRow w.heap.size 3 1 u (cho f l m).length ((cho f l m).map (Value.int .i64))) ∧ Below w.heap.size w w' := by
  have hof := fun W y (hW : Below w.heap.size w W) => often_any u0 m y W (hu0.on hW)
  obtain ⟨ax, cx, rfl, -⟩ := hu0
  obtain ⟨ad, cap, rfl, hn, hm, hwf, hcell⟩ := hv
  go_enter Try.func13, Try.ntmps13
  go_wp2_with fail
  go_loopw [7, 8] (fun u i wr => ∃ k : Nat, i = .int .i64 k ∧ k ≤ l.length ∧ Below w.heap.size w wr ∧ wr.ownsRow w.heap.size 3 1 u (cho f (l.take k) m).length ((cho f (l.take k) m).map (Value.int .i64))) (fun _ i _ => l.length - (intOf i).toNat)
  case atStart => exact ⟨0, rfl, Nat.zero_le _, Below.refl _ _, World.ownsRow_nil _ _ _ _⟩
  case round =>
    rename_i u3 u4
    obtain ⟨k, rfl, hk, hb, hu⟩ := hrel
    by_cases hlt : k < l.length
    · obtain ⟨b, off, rfl, hbb, hce⟩ := hcell (by omega)
      have hwy : (Lit.int .i64 (l.getD k 0)).wf = true := hwf _ (by simp [hlt])
      have s0 := take_snoc l k hlt
      have hcx : ∀ W, Below w.heap.size w W → W.cell? ⟨b, off + k, none⟩ = some (.int .i64 (l.getD k 0)) := fun W hW => (hW.cell (p := ⟨b, off + k, none⟩) hbb).trans (hce k hlt)
      obtain ⟨y, hy⟩ : ∃ y, l.getD k 0 = y := ⟨_, rfl⟩
      rw [hy] at hcx hwy s0
      have hsl : (cho f (l.take k) m).length ≤ k := by have := cho_le f (l.take k) m; simp at this; omega
      have hsn := cho_snoc f m (l.take k) y
      rw [← s0] at hsn
      obtain ⟨S, hS⟩ : ∃ S, cho f (l.take k) m = S := ⟨_, rfl⟩
      rw [hS] at hu hsn hsl
      obtain ⟨T, hT⟩ : ∃ T, cho f (l.take (k + 1)) m = T := ⟨_, rfl⟩
      rw [hT] at hsn
      replace hT := Lib.hid hT
      have c0 := hcx _ hb
      have lb := Nat.lt_of_lt_of_le hbb hb.size
      have hoft := hof wr y hb
      have hol := oft_le m y
      have hq : (decide (y ∈ m) = true ∧ 0 < oft m y) ∨ (decide (y ∈ m) = false ∧ ¬ 0 < oft m y) := by
        by_cases h : y ∈ m
        · refine .inl ⟨by simpa using h, ?_⟩
          rcases Nat.eq_zero_or_pos (oft m y) with h0 | h0
          · exact absurd h (oft_zero.1 h0)
          · exact h0
        · refine .inr ⟨by simpa using h, ?_⟩
          rw [oft_zero.2 h]; simp
      generalize decide (y ∈ m) = g at *
      generalize oft m y = q at *
      by_cases hin : g = f
      · rw [if_pos hin] at hsn
        subst hin
        replace hsn := Lib.hid hsn
        obtain ⟨n, hnn⟩ : ∃ n, S.length = n := ⟨_, rfl⟩
        rw [hnn] at hu hsl
        replace hnn := Lib.hid hnn
        clear hcell hce hwf hy s0 hS hof
        have hn20 : n + 1 ≤ 17592186044416 := by omega
        rcases hq with ⟨rfl, hq⟩ | ⟨rfl, hq⟩ <;> (
          go_wp2_with (first
            | (go_at_call 21; with_reducible refine hoft.mono ?_; clear hoft; rintro e w1 ⟨rfl, hb1⟩; replace hb := hb.trans (hb1.mono hb.size); replace hu := hp.row_on hu hb1; clear c0 lb hb1; have c0 := hcx _ hb; have lb := Nat.lt_of_lt_of_le hbb hb.size)
            | (at_builtin; refine hp.append_ints rfl _ _ 22 rfl w.heap.size 3 Try.underlying22 infoInt _ n S rfl (hu.alloc _) _ [y] rfl (hp.IsInts.of_owns (hp.row_one w1 y) rfl (by simpa using hwy)) (by simp; omega) (by have := hb.size; simp; omega) ?_; intro u2 w2 own2 gr2))
          go_roundw
          (case rel => exact ⟨k + 1, by go_num, by omega, (hb.alloc hb.size _).grown gr2 (by have := hb.size; simp; omega) (fun k hk => (hu.lt k hk).1), by rw [hT.out, hsn.out, List.length_append, hnn.out]; simpa using own2⟩)
          (case measure => simp [intOf]; omega))
      · rw [if_neg hin] at hsn
        replace hsn := Lib.hid hsn
        clear hcell hce hwf hy s0 hwy hS hof hcx
        rcases hq with ⟨rfl, hq⟩ | ⟨rfl, hq⟩ <;> cases f <;> first | exact absurd rfl hin | (
          clear hin
          go_wp2_with (go_at_call 21; with_reducible refine hoft.mono ?_; clear hoft; rintro e w1 ⟨rfl, hb1⟩)
          go_roundw
          (case rel => exact ⟨k + 1, by go_num, by omega, hb.trans (hb1.mono hb.size), by rw [hT.out, hsn.out]; exact hp.row_on hu hb1⟩)
          (case measure => simp [intOf]; omega))
    · obtain rfl : k = l.length := by omega
      rw [List.take_length] at hu
      go_wp2_with fail
      go_ret
      exact ⟨⟨_, rfl, hu⟩, hb⟩

theorem sift_as {v u0 : Value} {l m t : List Int} {f : Bool} {w : World} (ht : cho f l m = t) (hv : hp.IsInts w w.heap.size v l) (hu0 : hp.IsInts w w.heap.size u0 m) (hbd : l.length < 17592186044416) (hbm : m.length < 17592186044416) :
    Calls Try.prog 13 #[v, u0, .bool f] w fun e w' => (∃ u, e = .returned u ∧ hp.IsInts w' w'.heap.size u t) ∧ Below w.heap.size w w' := by
  subst ht
  exact (sift_own hv hu0 hbd hbm).mono fun _ _ ⟨⟨u, he, hu⟩, hb⟩ => ⟨⟨u, he, hp.IsInts.of_owns hu rfl fun x hx => hv.wf x (mem_cho.1 hx).1⟩, hb⟩
end Go.Proofs.Ytbdmccokdbfkpaa.wbt
