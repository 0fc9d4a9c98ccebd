/- The walk of SeqOwn. -/
import Derived.Test.YtkenocamlaaajaaSeqSlice
import Derived.Test.YtkenocamlaaajaaInts
namespace Go.Proofs.Ytkenocamlaaajaa.seqOwn
open Go Go.RowKit Go.Proofs.Ytkenocamlaaajaa.fin Go.Proofs.Ytkenocamlaaajaa.mono
set_option linter.unusedVariables false

theorem of_five (w : World) : Calls Try.prog 10 #[.slice (some ⟨w.heap.size, 0, none⟩) 1 1] (w.alloc (.cells #[.int .i64 5] 3)) fun e w' => (∃ u, e = .returned u ∧ IsT w' u [5]) ∧ Below w.heap.size w w' := by
  refine (sOf _ [5] _ (hp.IsInts.of_owns (hp.row_one w 5) rfl (by decide)) (by decide)).mono fun e w' h => ⟨h.1, ?_⟩
  exact ((Below.refl _ _).alloc (Nat.le_refl _) _).trans (h.2.mono (by simp))
theorem row_blk {w : World} {base n : Nat} {v : Value} {xs : List Value} (h : w.ownsRow base 3 1 v n xs) : ∃ a c g, v = .slice a n c ∧ (0 < n → a = some ⟨g, 0, none⟩ ∧ base ≤ g ∧ ∃ cs, hp.Blk w g 3 cs ∧ n ≤ cs.length) := by
  rcases h.2 with ⟨rfl, h0⟩ | ⟨g, cap, cur, rfl, hb, hg, hnc, hcm, hcs, htk⟩
  · exact ⟨none, 0, 0, by rw [h0], fun h => by omega⟩
  · exact ⟨_, cap, g, rfl, fun _ => ⟨rfl, hb, cur.toList, by simpa [hp.Blk] using hg, by simp; omega⟩⟩
theorem row_below {w : World} {base n g o : Nat} {v u : Value} {xs : List Value} (h : w.ownsRow base 3 1 v n xs) (hg : g < base) : (w.setCell ⟨g, o, none⟩ u).ownsRow base 3 1 v n xs :=
  h.kept (row := some g) ⟨rfl, rfl, rfl, by simp [World.setCell], fun i _ hi => Below.heap_setCell _ _ _ i (fun e => hi (by rw [e]))⟩ (.inr (fun e => by have := (h.lt g e).1; omega))

set_option maxRecDepth 100000 in
set_option maxHeartbeats 8000000 in
theorem walk (v0 : Value) (l0 : List Int) (x1 : Int) (w : World) (i0 : hp.IsInts w w.heap.size v0 l0) (w1 : (Lit.int .i64 x1).wf = true) (bd0 : l0.length ≤ 17592186043904) :
    Calls Try.prog 7 #[v0, .int .i64 x1] w fun e w' => e = .returned (.bool true) ∧ Below w.heap.size w w' := by
  have hwf0 := i0.wf
  have i0' := i0
  obtain ⟨az, cz, rfl, -, -⟩ := i0'
  go_enter Try.func7, Try.ntmps7
  go_wp2_with (first
    | (go_at_call 26; refine (same.cat_own _ l0 _ [] _ i0 (hp.IsInts.nil _ _) (by simp; omega)).mono ?_; rintro e wa ⟨⟨u, rfl, hu⟩, hba⟩; rw [List.append_nil] at hu; obtain ⟨a0, c0, g0, rfl, hg0⟩ := row_blk hu)
    | (go_at_call 10; (with_reducible refine (sOf _ l0 _ (hp.IsInts.of_owns hu rfl hwf0) (by omega)).mono ?_); rintro e wb ⟨⟨u, rfl, hu1⟩, hbb⟩; (obtain ⟨p, rfl⟩ := hu1.val)))
  have b1 : Below w.heap.size w wb := hba.trans (hbb.mono hba.size)
  obtain ⟨Wc, hWc⟩ : ∃ Wc, wb.alloc (.cells #[.pointer p] 30) = Wc := ⟨_, rfl⟩
  have hszc : Wc.heap.size = wb.heap.size + 1 := by rw [← hWc]; simp
  have hbc : Below wb.heap.size wb Wc := by rw [← hWc]; exact (Below.refl _ _).alloc (Nat.le_refl _) _
  have hA : hp.Blk Wc wb.heap.size 30 [.pointer p] := by
    rw [← hWc]
    exact hp.Blk.new wb [.pointer p] _
  have hlc := hu1.on hbc
  have hB : Below w.heap.size w Wc := b1.trans (hbc.mono b1.size)
  have hG : 0 < l0.length → a0 = some ⟨g0, 0, none⟩ ∧ w.heap.size ≤ g0 ∧ ∃ cs, hp.Blk Wc g0 3 cs ∧ l0.length ≤ cs.length := fun h => by
    obtain ⟨h1, h2, cs, h3, h4⟩ := hg0 h
    exact ⟨h1, h2, cs, (h3.on hbb).on hbc, h4⟩
  rw [hWc, ← hszc]
  clear hWc hu hg0 hu1 hba hbb hbc b1
  go_wp2_with (first
    | (go_at_call 10; refine (of_five _).mono ?_; rintro e wd ⟨⟨u, rfl, hud⟩, hbd⟩; (obtain ⟨pd, rfl⟩ := hud.val))
    | (go_at_call 23; refine (sLen hud).mono ?_; rintro e we ⟨rfl, hbe⟩; have hb4 : Below Wc.heap.size Wc wd := hbd; have hb5 := hb4.trans (hbe.mono hb4.size); have d0 := (hA.on hb5).cell 0; simp only [List.getElem?_cons_zero] at d0)
    | (go_at_call 17; refine (sInts (hlc.on hb5) (by omega)).mono ?_; rintro e wf ⟨⟨u, rfl, hui⟩, hbf⟩; have hui2 := hui; obtain ⟨ai, ci, rfl, -⟩ := hui2)
    | (go_at_call 26; refine (same.cat_own _ l0 _ [] _ hui (hp.IsInts.nil _ _) (by simp; omega)).mono ?_; rintro e wg ⟨⟨u, rfl, hus⟩, hbg⟩; rw [List.append_nil] at hus; obtain ⟨a2, c2, g2, rfl, hg2⟩ := row_blk hus))
  have hb6 := hb5.trans (hbf.mono hb5.size)
  have hb7 := hb6.trans (hbg.mono hb6.size)
  have hB7 : Below w.heap.size w wg := hB.trans (hb7.mono hB.size)
  have hA7 := hA.on hb7
  have hl7 := hlc.on hb7
  have hG7 : 0 < l0.length → a0 = some ⟨g0, 0, none⟩ ∧ w.heap.size ≤ g0 ∧ g0 < wf.heap.size ∧ ∃ cs, hp.Blk wg g0 3 cs ∧ l0.length ≤ cs.length := fun h => by
    obtain ⟨h1, h2, cs, h3, h4⟩ := hG h
    exact ⟨h1, h2, (h3.on hb6).lt, cs, h3.on hb7, h4⟩
  clear hG hbd hbe hb4 hb5 hbf hbg hui hb6 hb7 hB hA hlc d0
  go_loopw [9] (fun i wr => ∃ k : Nat, i = .int .i64 k ∧ k ≤ l0.length ∧ Below w.heap.size w wr ∧ hp.Blk wr wb.heap.size 30 [.pointer p] ∧ IsT wr (.agg #[.pointer p]) l0 ∧ wr.ownsRow wf.heap.size 3 1 (.slice a2 l0.length c2) l0.length (l0.map (Value.int .i64)) ∧ (0 < l0.length → ∃ cs, hp.Blk wr g0 3 cs ∧ l0.length ≤ cs.length)) (fun i _ => l0.length - (intOf i).toNat)
  case atStart =>
    exact ⟨0, rfl, Nat.zero_le _, hB7, hA7, hl7, hus, fun h => (hG7 h).2.2.2⟩
  case round =>
    obtain ⟨k, rfl, hk, hb, hA, hl, hw, hg⟩ := hrel
    by_cases hlt : k < l0.length
    · obtain ⟨rfl, hg1, hg3, -⟩ := hG7 (by omega)
      obtain ⟨cs, hc, hcl⟩ := hg (by omega)
      have e0 := hc.cell k
      rw [List.getElem?_eq_getElem (by omega)] at e0
      have e1 := hc.free k
      clear hg hG7
      go_wp2
      go_roundw
      case rel =>
        exact ⟨k + 1, by go_num, by omega, hb.setCell (by simpa using hg1) _, hA.other (blk_ne hA hc (by decide)) _, hl.keep (Keep.of_set hc (by decide) (by decide) (by decide) _), row_below hw hg3, fun _ => ⟨_, hc.set k _, by simp; omega⟩⟩
      case measure => simp [intOf]; omega
    · obtain rfl : k = l0.length := by omega
      have d0 := hA.cell 0
      simp only [List.getElem?_cons_zero] at d0
      have hwi : hp.IsInts wr wr.heap.size _ l0 := hp.IsInts.of_owns hw rfl hwf0
      clear hlt hk hw hg hG7
      go_wp2_with (first
        | (go_at_call 17; refine (sInts_own hl (by omega)).mono ?_; rintro e wh ⟨⟨u, rfl, hub⟩, hbh⟩; obtain ⟨a3, c3, g3, rfl, hg3⟩ := row_blk hub)
        | (go_at_call 16; refine (same.ints_eq rfl (hp.IsInts.of_owns hub rfl hwf0) (hwi.on hbh)).mono ?_; rintro e wi ⟨rfl, hbi⟩))
      have hb9 := hbh.trans (hbi.mono hbh.size)
      have hG9 : 0 < l0.length → a3 = some ⟨g3, 0, none⟩ ∧ wr.heap.size ≤ g3 ∧ ∃ cs, hp.Blk wi g3 3 cs ∧ l0.length ≤ cs.length := fun h => by
        obtain ⟨h1, h2, cs, h3, h4⟩ := hg3 h
        exact ⟨h1, h2, cs, h3.on hbi, h4⟩
      clear hg3 hub hbi hbh d0
      go_loopw [12] (fun i W => ∃ k : Nat, i = .int .i64 k ∧ k ≤ l0.length ∧ Below wr.heap.size wr W ∧ (0 < l0.length → ∃ cs, hp.Blk W g3 3 cs ∧ l0.length ≤ cs.length)) (fun i _ => l0.length - (intOf i).toNat)
      case atStart =>
        exact ⟨0, rfl, Nat.zero_le _, hb9, fun h => (hG9 h).2.2⟩
      case round =>
        rename World => W
        obtain ⟨k, rfl, hk, hbW, hg⟩ := hrel
        by_cases hlt : k < l0.length
        · obtain ⟨rfl, hg1, -⟩ := hG9 (by omega)
          obtain ⟨cs, hc, hcl⟩ := hg (by omega)
          have e0 := hc.cell k
          rw [List.getElem?_eq_getElem (by omega)] at e0
          have e1 := hc.free k
          clear hg hG9
          go_wp2
          go_roundw
          case rel =>
            exact ⟨k + 1, by go_num, by omega, hbW.setCell (by simpa using hg1) _, fun _ => ⟨_, hc.set k _, by simp; omega⟩⟩
          case measure => simp [intOf]; omega
        · obtain rfl : k = l0.length := by omega
          have d0 := (hA.on hbW).cell 0
          simp only [List.getElem?_cons_zero] at d0
          clear hlt hk hg hG9
          go_wp2_with (first
            | (go_at_call 17; refine (sInts (hl.on hbW) (by omega)).mono ?_; rintro e wj ⟨⟨u, rfl, huj⟩, hbj⟩)
            | (go_at_call 16; refine (same.ints_eq rfl huj ((hwi.on hbW).on hbj)).mono ?_; rintro e wk ⟨rfl, hbk⟩))
          go_ret
          have z1 := hbW.trans (hbj.mono hbW.size)
          have z2 := z1.trans (hbk.mono z1.size)
          exact ⟨rfl, hb.trans (z2.mono hb.size)⟩

end Go.Proofs.Ytkenocamlaaajaa.seqOwn
