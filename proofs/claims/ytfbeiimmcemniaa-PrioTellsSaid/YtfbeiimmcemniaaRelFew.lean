/- A region that draws its order, some of whose operations may come behind the last ones: pure ones: each is taken first wherever it comes up. -/
import Derived.Test.YtfbeiimmcemniaaRel
namespace Go.Proofs.Ytfbeiimmcemniaa.rel
open Go

def freeW (ops : Array Oper) (i0 : Nat) : Bool :=
  (List.range ops.size).all fun j => match ops[i0]?, ops[j]? with
    | some o0, some oj => j == i0 || Region.waitsFor .any ops j i0 || o0.apart ops oj || Region.waitsFor .any ops i0 j
    | _, _ => true
def sinkB3 (ops : Array Oper) (n : Nat) (I0 : List Nat) : Bool :=
  (List.range n).all fun i => I0.contains i || (List.range (n + 1)).any fun j => decide (i < j) && !I0.contains j && Region.waitsFor .any ops j i
def tailB3 (ops : Array Oper) (n : Nat) (I0 : List Nat) : Bool :=
  decide (n < ops.size) && sinkB3 ops n I0 && Region.chainB .any ops n && Region.seqB .any ops (ops.size - n) n ((List.range ops.size).map fun i => decide (i < n)).toArray && I0.all fun i0 => decide (i0 < n) && freeW ops i0

/-- what waits for one that is not listed does not come up -/
theorem not_up3 {ops : Array Oper} {listed : Array Bool} {t i : Nat} (hw : Region.waitsFor .any ops t i = true) (hun : listed.getD i true = false) : t ∉ Region.ready .any ops listed := by
  intro hr
  obtain ⟨o, ho, e, he, hb, rfl⟩ := Region.waitsFor_spec hw
  obtain ⟨o', ho', hall⟩ := (mem_ready.1 hr).2
  rw [ho] at ho'
  cases ho'
  simp [getD_both hun] at hall
  exact absurd (hall e he hb) (by simpa using getD_both hun)
/-- nor is it listed -/
theorem not_listed3 {ops : Array Oper} {n : Nat} {listed : Array Bool} (inv : HeadInv .any ops n listed) {j i : Nat} (hj : j < ops.size) (hw : Region.waitsFor .any ops j i = true) (hun : listed.getD i true = false) : listed.getD j true = false := by
  refine getD_in (by rw [inv.size]; exact hj) ?_
  by_cases h : listed.getD j false = true
  · obtain ⟨o, ho, e, he, hb, rfl⟩ := Region.waitsFor_spec hw
    exact absurd (inv.closed j o ho h e he hb) (by rw [getD_both hun]; simp)
  · simpa using h
/-- one of the head's, not i0, is not listed: the tail's first one does not come up -/
theorem first_down3 {ops : Array Oper} {n : Nat} {I0 : List Nat} {listed : Array Bool} (hs : sinkB3 ops n I0 = true) (hn : n < ops.size) (inv : HeadInv .any ops n listed) (i : Nat) (hi : i < n) (hne : i ∉ I0) (hun : listed.getD i true = false) : n ∉ Region.ready .any ops listed := by
  have h1 := List.all_eq_true.1 hs i (by simpa using hi)
  simp only [Bool.or_eq_true, List.contains_iff_mem, hne, false_or, List.any_eq_true, List.mem_range, Bool.and_eq_true, decide_eq_true_eq, Bool.not_eq_true', List.contains_eq_mem, decide_eq_false_iff_not] at h1
  obtain ⟨j, hjn, ⟨hij, hj0⟩, hw⟩ := h1
  rcases Nat.lt_or_ge j n with hlt | hge
  · exact first_down3 hs hn inv j hlt hj0 (not_listed3 inv (by omega) hw hun)
  · obtain rfl : j = n := by omega
    exact not_up3 hw hun
termination_by n - i
theorem tail_waits3 {ops : Array Oper} {n : Nat} {I0 : List Nat} {listed : Array Bool} (hs : sinkB3 ops n I0 = true) (hc : Region.chainB .any ops n = true) (hn : n < ops.size) (inv : HeadInv .any ops n listed) (i : Nat) (hi : i < n) (hne : i ∉ I0) (hun : listed.getD i true = false) (t : Nat) (ht : n ≤ t) : t ∉ Region.ready .any ops listed := by
  by_cases htn : t = n
  · rw [htn]
    exact first_down3 hs hn inv i hi hne hun
  · by_cases hts : t < ops.size
    · have h1 := List.all_eq_true.1 hc t (by simpa using hts)
      simp only [Bool.or_eq_true, decide_eq_true_eq] at h1
      exact not_up3 (h1.resolve_left (by omega)) (inv.tail (t - 1) (by omega) (by omega))
    · intro hr
      obtain ⟨-, o, ho, -⟩ := mem_ready.1 hr
      exact hts (Array.getElem?_eq_some_iff.1 ho).1
theorem first_waits3 {ops : Array Oper} {n : Nat} {I0 : List Nat} {listed : Array Bool} (hs : sinkB3 ops n I0 = true) (hc : Region.chainB .any ops n = true) (hn : n < ops.size) (hB : headB ops n = true) (inv : HeadInv .any ops n listed) (hr0 : ∀ i0 ∈ I0, i0 ∉ Region.ready .any ops listed)
    (i : Nat) (hi : i < n) (hun : listed.getD i true = false) (t : Nat) (ht : n ≤ t) : t ∉ Region.ready .any ops listed := by
  by_cases hne : i ∈ I0
  · obtain ⟨o, ho⟩ : ∃ o, ops[i]? = some o := ⟨ops[i]'(by omega), by simp [show i < ops.size by omega]⟩
    have hex : ∃ e ∈ o.after, Region.binds .any e = true ∧ listed.getD e.on false ≠ true := by
      apply Classical.byContradiction
      intro hno
      exact hr0 i hne (mem_ready.2 ⟨hun, o, ho, fun e he hb => Classical.byContradiction fun hx => hno ⟨e, he, hb, hx⟩⟩)
    obtain ⟨e, he, hb, hx⟩ := hex
    have hB' := hB
    simp only [headB, Bool.and_eq_true, List.all_eq_true, List.mem_range] at hB'
    have hback := (hB'.2 i hi).1
    unfold backB at hback
    rw [ho] at hback
    simp only [Option.map_some, Option.getD_some, Array.all_eq_true_iff_forall_mem, Bool.or_eq_true, Bool.not_eq_true', decide_eq_true_eq] at hback
    have hlt : e.on < i := by
      rcases hback e he with h | h
      · rw [hb] at h; cases h
      · exact h
    exact first_waits3 hs hc hn hB inv hr0 e.on (by omega) (getD_in (by rw [inv.size]; omega) (by simpa using hx)) t ht
  · exact tail_waits3 hs hc hn inv i hi hne hun t ht
termination_by i

section
variable {P : Program} {ops : Array Oper} {C : World → Prop} {X : World → World → Prop} {R : List (Nat × (World → Prop)) → Act → Prop}
theorem rel_any3 {n g : Nat} {I0 : List Nat} {l : List Oper} {ks : List Kind} {a0 : Act} (hl : ∀ j, j < n → l[j]? = ops[j]?) (hln : l.length = n) (hn : n ≤ ops.size) (hB : headB ops n = true) (hsz : sizeB ops n a0.tmps.size = true)
    (hW : Walk P ops C X R l ks [] a0) (U0 : Nat → Value) (hU0 : Fit C U0 0 ks)
    (hwait : ∀ listed, HeadInv .any ops n listed → (∀ i0 ∈ I0, i0 ∉ Region.ready .any ops listed) → ∀ i, i < n → listed.getD i true = false → ∀ t, n ≤ t → t ∉ Region.ready .any ops listed) {Q' : Exit → Act → World → Prop}
    (hfl : ∀ i0 ∈ I0, i0 < n ∧ freeW ops i0 = true ∧ ∃ o0 k0, ops[i0]? = some o0 ∧ ks[i0]? = some k0 ∧ (∀ v c a w, Q' (.panic c) (a.put o0.dst v) w → Q' (.panic c) a w) ∧ ∀ listed a w, J P ops C n ks a0 listed a w → i0 ∈ Region.ready .any ops listed → ∃ v, Yields P ops o0 v a ∧ k0.post v w)
    (hend : ∀ listed F a w, HeadInv .any ops n listed → (∀ i, i < n → listed.getD i true = true) → R F a → (∀ f ∈ F, f.2 w) → C w → wpAny P .any ops Q' g listed a w) :
    ∀ (f : Nat) (listed : Array Bool) (a : Act) (w : World), J P ops C n ks a0 listed a w → cnt listed n = f → wpAny P .any ops Q' (f + g) listed a w := by
  simp only [headB, Bool.and_eq_true, List.all_eq_true, List.mem_range] at hB
  obtain ⟨hsel, hB⟩ := hB
  have hsz' : ∀ j o d, j < n → ops[j]? = some o → o.dst = some d → d < a0.tmps.size := fun j o d hj ho hd => by
    have := List.all_eq_true.1 hsz j (List.mem_range.2 hj)
    simpa [ho, hd] using this
  have hg0 := (walk_at U0 l 0 ks [] a0 hW hU0).1
  -- the values that are there
  have hFit : ∀ (listed : Array Bool) (a : Act) (w : World), J P ops C n ks a0 listed a w → ∃ U : Nat → Value, Fit C U 0 ks ∧ ∀ j o d, j < n → ops[j]? = some o → listed.getD j false = true → o.dst = some d → U j = a.tmps.getD d undef := by
    intro listed a w hJ
    refine ⟨fun j => if listed.getD j false = true ∧ j < n then slot a ((ops[j]?).bind (·.dst)) else U0 j, fun j φ hj => ?_, fun j o d hj ho hli hd => ?_⟩
    · by_cases hc : listed.getD j false = true ∧ j < n
      · obtain ⟨o, ho⟩ : ∃ o, ops[j]? = some o := ⟨ops[j]'(by omega), by simp [show j < ops.size by omega]⟩
        obtain ⟨k, hk, _, h3⟩ := hg0 j o (by rw [hl j hc.2]; exact ho)
        have hkφ : k = .rel φ := by rw [hk] at hj; exact Option.some.inj hj
        obtain ⟨⟨d, hd⟩, _⟩ := h3 φ hkφ
        refine ⟨w, hJ.world, ?_⟩
        have := hJ.done j o d k hc.2 ho hk hc.1 hd
        simp only [Nat.zero_add, if_pos hc, ho, Option.bind_some, hd, slot]
        rw [hkφ] at this
        exact this
      · obtain ⟨w, hw, hφ⟩ := hU0 j φ hj
        refine ⟨w, hw, ?_⟩
        simp only [Nat.zero_add] at hφ ⊢
        rw [if_neg hc]
        exact hφ
    · simp only [if_pos (show listed.getD j false = true ∧ j < n from ⟨hli, hj⟩), ho, Option.bind_some, hd, slot]
  intro f
  induction f with
  | zero =>
    intro listed a w hJ hc
    rw [Nat.zero_add]
    have hall := cnt_zero n hc
    have hall' : ∀ i, i < n → listed.getD i false = true := fun i hi => by
      have h1 := hall i hi
      have hlt : i < listed.size := by rw [hJ.inv.size]; omega
      simp [hlt] at h1 ⊢; exact h1
    obtain ⟨U, hU, hUa⟩ := hFit listed a w hJ
    obtain ⟨hg, hR⟩ := walk_at U l 0 ks [] a0 hW hU
    have hfr := frame_size U l 0 ks l.length a0
    have haa : frameAt U 0 l ks l.length a0 = a := by
      have htm : (frameAt U 0 l ks l.length a0).tmps = a.tmps := by
        apply Array.ext_getElem?
        intro t
        by_cases ht : ∃ j o, j < n ∧ ops[j]? = some o ∧ o.dst = some t
        · obtain ⟨j, o, hj, ho, hd⟩ := ht
          obtain ⟨k, hk, _, _⟩ := hg j o (by rw [hl j hj]; exact ho)
          have hts := hsz' j o t hj ho hd
          rw [frame_slot U l 0 ks l.length a0 j o k (by omega) (by rw [hl j hj]; exact ho) hk hd hts (fun j' o' hne ho' => by
            have hj' : j' < n := by
              rw [← hln]
              exact (List.getElem?_eq_some_iff.1 ho').1
            rw [hl j' hj'] at ho'
            exact (pairB_spec ((hB j' hj').2 j hj) ho' ho hd hne).1), Nat.zero_add]
          have h5 := hJ.done j o t k hj ho hk (hall' j hj) hd
          have h6 : a.tmps[t]? = some (a.tmps.getD t undef) := by
            have : t < a.tmps.size := by rw [hJ.size]; exact hts
            simp [this]
          rw [h6]
          cases k with
          | val v => simp only [Kind.pick]; rw [show a.tmps.getD t undef = v from h5]
          | rel φ => simp only [Kind.pick]; rw [hUa j o t hj ho (hall' j hj) hd]
        · rw [frame_other U l 0 ks l.length a0 (fun j o hj ho hd => ht ⟨j, o, by omega, by rw [← hl j (by omega)]; exact ho, hd⟩), hJ.other t (fun j o hj ho _ hd => ht ⟨j, o, hj, ho, hd⟩)]
      cases hF : frameAt U 0 l ks l.length a0 with
      | mk tm df =>
        rw [hF] at htm hfr
        cases a with
        | mk tm' df' =>
          simp only at htm hfr
          have := hJ.defers
          simp only at this
          rw [htm, hfr.2, this]
    rw [haa] at hR
    refine hend listed _ a w hJ.inv hall hR (fun f hf => ?_) hJ.world
    rcases facts_mem U l 0 ks l.length [] hf with hf | ⟨j, o, φ, hj, ho, hk, rfl⟩
    · cases hf
    · have hjn : j < n := by omega
      rw [hl j hjn] at ho
      obtain ⟨k, hk', _, h3⟩ := hg j o (by rw [hl j hjn]; exact ho)
      obtain rfl : k = .rel φ := by rw [hk'] at hk; exact Option.some.inj hk
      obtain ⟨⟨d, hd⟩, _⟩ := h3 φ rfl
      have := hJ.done j o d _ hjn ho hk' (hall' j hjn) hd
      simp only [Nat.zero_add]
      rw [hUa j o d hjn ho (hall' j hjn) hd]
      exact this
  | succ f ih =>
    intro listed a w hJ hc
    rw [show f + 1 + g = (f + g) + 1 by omega]
    have hun := cnt_pos n (by rw [hc]; omega)
    have hne : Region.ready .any ops listed ≠ [] := by
      obtain ⟨i, hi, hu⟩ := hun
      induction i using Nat.strongRecOn with
      | _ i ihi =>
        obtain ⟨o, ho⟩ : ∃ o, ops[i]? = some o := ⟨ops[i]'(by omega), by simp [show i < ops.size by omega]⟩
        by_cases hr : ∀ e ∈ o.after, Region.binds .any e = true → listed.getD e.on false = true
        · intro h0
          have : i ∈ Region.ready .any ops listed := mem_ready.2 ⟨hu, o, ho, hr⟩
          rw [h0] at this
          cases this
        · have : ∃ e ∈ o.after, Region.binds .any e = true ∧ listed.getD e.on false ≠ true := by
            apply Classical.byContradiction
            intro hno
            exact hr fun e he hb => Classical.byContradiction fun hx => hno ⟨e, he, hb, hx⟩
          obtain ⟨e, he, hb, hx⟩ := this
          have hback := (hB i hi).1
          unfold backB at hback
          rw [ho] at hback
          simp only [Option.map_some, Option.getD_some, Array.all_eq_true_iff_forall_mem, Bool.or_eq_true, Bool.not_eq_true', decide_eq_true_eq] at hback
          have hlt : e.on < i := by
            rcases hback e he with h | h
            · rw [hb] at h; cases h
            · exact h
          refine ihi e.on hlt (by omega) (getD_in (by rw [hJ.inv.size]; omega) ?_)
          simpa using hx
    have hdist : ∀ j j' oj oj' t, j < n → j' < n → ops[j]? = some oj → ops[j']? = some oj' → oj.dst = some t → oj'.dst = some t → j = j' := by
      intro j j' oj oj' t hj hj' hoj hoj' hd hd'
      apply Classical.byContradiction
      intro hne
      exact (pairB_spec ((hB j hj).2 j' hj') hoj hoj' hd' hne).1 hd
    by_cases hrx : ∃ i0, i0 ∈ I0 ∧ i0 ∈ Region.ready .any ops listed
    · obtain ⟨i0, him, hr0⟩ := hrx
      obtain ⟨hi0, hfree, o0, k0, ho0, hk0, hQb, hy⟩ := hfl i0 him
      obtain ⟨v0, hy0, hp0⟩ := hy listed a w hJ hr0
      refine wpAny_first ho0 (Region.noSelect_spec hsel) (hQb v0) _ listed a w (fun j oj hj hne hun hno => ?_) hr0 hy0 ?_
      · have hf := List.all_eq_true.1 hfree j (List.mem_range.2 (Array.getElem?_eq_some_iff.1 hj).1)
        simp only [ho0, hj, Bool.or_eq_true, beq_iff_eq] at hf
        rcases hf with ((hf | hf) | hf) | hf
        · exact absurd hf hne
        · obtain ⟨o', ho', e, he, hb, hon⟩ := Region.waitsFor_spec hf
          have : o' = oj := Option.some.inj (ho'.symm.trans hj)
          subst this
          exact absurd hon (hno e he hb)
        · exact hf
        · obtain ⟨o', ho', e, he, hb, hon⟩ := Region.waitsFor_spec hf
          have : o' = o0 := Option.some.inj (ho'.symm.trans ho0)
          subst this
          obtain ⟨_, o2, ho2, hedge⟩ := mem_ready.1 hr0
          have : o2 = o' := Option.some.inj (ho2.symm.trans ho0)
          subst this
          have h2 := hedge e he hb
          rw [hon, getD_both hun] at h2
          cases h2
      · obtain ⟨hui, _⟩ := mem_ready.1 hr0
        have hui' := getD_both hui
        refine ih _ _ _ ?_ (by have := cnt_set hui n hi0; omega)
        refine ⟨hJ.inv.set hr0 hi0, ?_, ?_, fun t ht => ?_, hJ.world, fun j oj d kj hj hoj hkj hlj hd => ?_⟩
        · rw [← hJ.size]; cases o0.dst <;> simp [Act.put]
        · rw [← hJ.defers]; cases o0.dst <;> rfl
        · rw [put_ne _ _ (ht i0 o0 hi0 ho0 (by simp [show i0 < listed.size by rw [hJ.inv.size]; omega]))]
          exact hJ.other t fun j oj hj hoj hlj => ht j oj hj hoj (getD_set_true hlj)
        · by_cases hij : i0 = j
          · subst hij
            have : oj = o0 := Option.some.inj (hoj.symm.trans ho0)
            subst this
            have : kj = k0 := Option.some.inj (hkj.symm.trans hk0)
            subst this
            rw [hd]
            have hds : d < a.tmps.size := by rw [hJ.size]; exact hsz' _ _ _ hi0 ho0 hd
            have := put_same a v0 hds
            simp only [Array.getD_eq_getD_getElem?, this, Option.getD_some]
            exact hp0
          · rw [getD_set_ne false hij] at hlj
            have h5 := hJ.done j oj d kj hj hoj hkj hlj hd
            have hdd : o0.dst ≠ some d := fun hd' => hij (hdist i0 j o0 oj d hi0 hj ho0 hoj hd' hd)
            simp only [Array.getD_eq_getD_getElem?, put_ne a v0 hdd]
            simp only [Array.getD_eq_getD_getElem?] at h5
            exact h5
    refine ⟨fun h0 => absurd h0 hne, fun i hi => ?_⟩
    have hin : i < n := by
      obtain ⟨j, hj, hu⟩ := hun
      exact (Nat.lt_or_ge i n).resolve_right fun h => hwait listed hJ.inv (fun i0 h1 h2 => hrx ⟨i0, h1, h2⟩) j hj hu i h hi
    obtain ⟨hui, o, ho, hedge⟩ := mem_ready.1 hi
    have hui' := getD_both hui
    obtain ⟨U, hU, hUa⟩ := hFit listed a w hJ
    obtain ⟨hg, _⟩ := walk_at U l 0 ks [] a0 hW hU
    obtain ⟨k, hk, hone, hrel⟩ := hg i o (by rw [hl i hin]; exact ho)
    -- what it looks at and another one leaves
    have hlook : ∀ t j oj, j < n → ops[j]? = some oj → oj.dst = some t → j ≠ i → t ∈ o.looksAt ops → (j < i ∧ listed.getD j false = true) ∨ (i < j ∧ listed.getD j false ≠ true) := by
      intro t j oj hj hoj hd hji ht
      rcases (pairB_spec ((hB i hin).2 j hj) ho hoj hd (Ne.symm hji)).2 ht with ⟨h1, h2⟩ | ⟨h1, h2⟩
      · obtain ⟨o', ho', e, he, hb, hon⟩ := Region.waitsFor_spec h2
        have : o' = o := Option.some.inj (ho'.symm.trans ho)
        subst this
        have := hedge e he hb
        rw [hon] at this
        exact .inl ⟨h1, this⟩
      · obtain ⟨o', ho', e, he, hb, hon⟩ := Region.waitsFor_spec h2
        have : o' = oj := Option.some.inj (ho'.symm.trans hoj)
        subst this
        refine .inr ⟨h1, fun hlj => ?_⟩
        have := hJ.inv.closed j o' hoj hlj e he hb
        rw [hon, hui'] at this
        cases this
    have hag : ∀ t ∈ o.looksAt ops, a.tmps[t]? = (frameAt U 0 l ks i a0).tmps[t]? := by
      intro t ht
      by_cases hw : ∃ j oj, j < n ∧ ops[j]? = some oj ∧ oj.dst = some t ∧ j ≠ i
      · obtain ⟨j, oj, hj, hoj, hd, hji⟩ := hw
        have hts := hsz' j oj t hj hoj hd
        rcases hlook t j oj hj hoj hd hji ht with ⟨h1, h2⟩ | ⟨h1, h2⟩
        · obtain ⟨kj, hkj, _, _⟩ := hg j oj (by rw [hl j hj]; exact hoj)
          rw [frame_slot U l 0 ks i a0 j oj kj h1 (by rw [hl j hj]; exact hoj) hkj hd hts (fun j' o' hne ho' hd' => by
            have hj' : j' < n := by
              rw [← hln]
              exact (List.getElem?_eq_some_iff.1 ho').1
            rw [hl j' hj'] at ho'
            exact hne (hdist j' j o' oj t hj' hj ho' hoj hd' hd)), Nat.zero_add]
          have h5 := hJ.done j oj t kj hj hoj hkj h2 hd
          have h6 : a.tmps[t]? = some (a.tmps.getD t undef) := by
            have : t < a.tmps.size := by rw [hJ.size]; exact hts
            simp [this]
          rw [h6]
          cases kj with
          | val v => simp only [Kind.pick]; rw [show a.tmps.getD t undef = v from h5]
          | rel φ => simp only [Kind.pick]; rw [hUa j oj t hj hoj h2 hd]
        · rw [frame_other U l 0 ks i a0 (fun j' o' hj' ho' hd' => by
            have hj'n : j' < n := by omega
            rw [hl j' hj'n] at ho'
            have := hdist j' j o' oj t hj'n hj ho' hoj hd' hd
            omega), hJ.other t (fun j' o' hj' ho' hl' hd' => by
            have := hdist j' j o' oj t hj' hj ho' hoj hd' hd
            subst this
            exact h2 hl')]
      · have hno : ∀ j oj, j < n → ops[j]? = some oj → oj.dst = some t → j = i := fun j oj hj hoj hd => Classical.byContradiction fun hji => hw ⟨j, oj, hj, hoj, hd, hji⟩
        rw [frame_other U l 0 ks i a0 (fun j' o' hj' ho' hd' => by
            have hj'n : j' < n := by omega
            rw [hl j' hj'n] at ho'
            have := hno j' o' hj'n ho' hd'
            omega), hJ.other t (fun j' o' hj' ho' hl' hd' => by
            have := hno j' o' hj' ho' hd'
            subst this
            rw [hui'] at hl'
            cases hl')]
    have hF : HoldsF ops o (factsAt U 0 l ks i []) w := by
      intro f hf hlk
      rcases facts_mem U l 0 ks i [] hf with hf | ⟨j, oj, φ, hj, hoj, hkj, rfl⟩
      · cases hf
      · have hjn : j < n := by omega
        rw [hl j hjn] at hoj
        obtain ⟨k', hk', _, h3⟩ := hg j oj (by rw [hl j hjn]; exact hoj)
        obtain rfl : k' = .rel φ := by rw [hk'] at hkj; exact Option.some.inj hkj
        obtain ⟨⟨d, hd⟩, _⟩ := h3 φ rfl
        have hlk' : d ∈ o.looksAt ops := by simpa [hd] using hlk
        rcases hlook d j oj hjn hoj hd (by omega) hlk' with ⟨_, h2⟩ | ⟨h1, _⟩
        · have := hJ.done j oj d _ hjn hoj hk' h2 hd
          simp only [Nat.zero_add]
          rw [hUa j oj d hjn hoj h2 hd]
          exact this
        · omega
    refine hone.run hJ.world hF ho a hag (Region.noSelect_spec hsel i o · · ho) (fun d hd => by rw [(frame_size U l 0 ks i a0).1]; exact hsz' i o d hin ho hd) (fun v w' hC' hX hv => ?_)
    refine ih _ _ _ ?_ (by have := cnt_set hui n hin; omega)
    refine ⟨hJ.inv.set hi hin, ?_, ?_, fun t ht => ?_, hC', fun j oj d kj hj hoj hkj hlj hd => ?_⟩
    · rw [← hJ.size]; cases o.dst <;> simp [Act.put]
    · rw [← hJ.defers]; cases o.dst <;> rfl
    · rw [put_ne _ _ (ht i o hin ho (by simp [show i < listed.size by rw [hJ.inv.size]; omega]))]
      exact hJ.other t fun j oj hj hoj hlj => ht j oj hj hoj (getD_set_true hlj)
    · by_cases hij : i = j
      · subst hij
        have : oj = o := Option.some.inj (hoj.symm.trans ho)
        subst this
        have : kj = k := Option.some.inj (hkj.symm.trans hk)
        subst this
        rw [hd]
        have hds : d < a.tmps.size := by rw [hJ.size]; exact hsz' _ _ _ hin ho hd
        have := put_same a v hds
        simp only [Array.getD_eq_getD_getElem?, this, Option.getD_some]
        exact hv d hd
      · rw [getD_set_ne false hij] at hlj
        have h5 := hJ.done j oj d kj hj hoj hkj hlj hd
        have hdd : o.dst ≠ some d := fun hd' => hij (hdist i j o oj d hin hj ho hoj hd' hd)
        simp only [Array.getD_eq_getD_getElem?, put_ne a v hdd]
        simp only [Array.getD_eq_getD_getElem?] at h5
        cases kj with
        | val u => exact h5
        | rel φ =>
          obtain ⟨k', hk', _, h3⟩ := hg j oj (by rw [hl j hj]; exact hoj)
          obtain rfl : k' = .rel φ := by rw [hk'] at hkj; exact Option.some.inj hkj
          exact (h3 φ rfl).2 _ w w' hX h5

/-- ITS HEAD; the last ones come in one order -/
theorem region_few_any {Q : Exit → Act → World → Prop} {a : Act} {w : World} {l : List Oper} {ks : List Kind} (n : Nat) (I0 : List Nat)
    (hfl : ∀ i0 ∈ I0, ∃ o0 k0, l.toArray[i0]? = some o0 ∧ ks[i0]? = some k0 ∧ (∀ v c a w, Q (.panic c) (a.put o0.dst v) w → Q (.panic c) a w) ∧ ∀ listed a' w', J P l.toArray C n ks a listed a' w' → i0 ∈ Region.ready .any l.toArray listed → ∃ v, Yields P l.toArray o0 v a' ∧ k0.post v w')
    (hT : tailB3 l.toArray n I0 = true) (hB : headB l.toArray n = true)
    (hsz : sizeB l.toArray n a.tmps.size = true) (hC : C w) (hW : Walk P l.toArray C X (fun F a' => ∀ w', C w' → (∀ f ∈ F, f.2 w') → wpList P l.toArray Q (l.drop n) a' w') (l.take n) ks [] a) : wpAny P .any l.toArray Q l.toArray.size (Array.replicate l.toArray.size false) a w := by
  obtain ⟨U0, hU0⟩ := walk_fit _ 0 ks [] a _ hW (by simp) hC (by simp)
  simp only [tailB3, Bool.and_eq_true, decide_eq_true_eq, List.all_eq_true] at hT
  obtain ⟨⟨⟨⟨hn, hs⟩, hc⟩, hq⟩, hI⟩ := hT
  have hn' : n < l.length := by simpa using hn
  have hdl : (l.drop n).length = l.toArray.size - n := by simp
  have := rel_any3 (ops := l.toArray) (g := l.toArray.size - n) (I0 := I0) (fun j hj => by simp [hj]) (by simp; omega) (by simp; omega) hB hsz hW U0 hU0 (fun listed inv hr0 i hi hu t ht hr => first_waits3 hs hc hn hB inv hr0 i hi hu t ht hr) (Q' := Q)
    (fun i0 h => ⟨(hI i0 h).1, (hI i0 h).2, hfl i0 h⟩)
    (fun listed F a' w' inv hall hR hF hC' => by
      have he : listed = ((List.range l.toArray.size).map fun i => decide (i < n)).toArray := by
        apply Array.ext_getElem?
        intro i
        by_cases hi : i < l.toArray.size
        · have hi2 : i < listed.size := by rw [inv.size]; exact hi
          by_cases hin : i < n
          · have := hall i hin
            simp [hi2] at this
            have hi3 : i < l.length := by simpa using hi
            simp [hi2, hi3, this, hin]
          · have := inv.tail i (by omega) hi
            simp [hi2] at this
            have hi3 : i < l.length := by simpa using hi
            simp [hi2, hi3, this, hin]
        · rw [Array.getElem?_eq_none (by rw [inv.size]; omega), Array.getElem?_eq_none (by simp at hi ⊢; omega)]
      have := wpAny_of_seq (md := .any) (Q' := Q) (l.drop n) n listed a' w' (fun j => by simp [List.getElem?_drop]) (by rw [hdl, he]; exact hq) (hR w' hC' hF)
      rwa [hdl] at this) n _ a _ (J.start hC) (by rw [cnt_none _ _ (by simp; omega)])
  rw [show n + (l.toArray.size - n) = l.toArray.size by omega] at this
  exact this
theorem region_few {id : Nat} {Q : Exit → Act → World → Prop} {a : Act} {w : World} {l : List Oper} {ks : List Kind} (n : Nat) (I0 : List Nat) (hm : P.follows .mixedOrders = true) (hT : tailB3 l.toArray n I0 = true) (hB : headB l.toArray n = true)
    (hsz : sizeB l.toArray n a.tmps.size = true) (hC : C w.drew) (hW : Walk P l.toArray C X (fun F a' => ∀ w', C w' → (∀ f ∈ F, f.2 w') → wpList P l.toArray Q (l.drop n) a' w') (l.take n) ks [] a)
    (hfl : ∀ i0 ∈ I0, ∃ o0 k0, l.toArray[i0]? = some o0 ∧ ks[i0]? = some k0 ∧ (∀ v c a w, Q (.panic c) (a.put o0.dst v) w → Q (.panic c) a w) ∧ ∀ listed a' w', J P l.toArray C n ks a listed a' w' → i0 ∈ Region.ready .any l.toArray listed → ∃ v, Yields P l.toArray o0 v a' ∧ k0.post v w') : (Code.region id l.toArray true).wp P Q a w :=
  wp_region_any hm (region_few_any n I0 hfl hT hB hsz hC hW)
end
#print axioms region_few
end Go.Proofs.Ytfbeiimmcemniaa.rel
