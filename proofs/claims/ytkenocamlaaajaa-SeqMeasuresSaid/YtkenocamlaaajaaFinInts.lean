/- Package finger: All, Measure, Ints. -/
import Derived.Test.YtkenocamlaaajaaFinRange
import Derived.Test.YtkenocamlaaajaaFinPush
import Derived.Maps.AppendAt
namespace Go.Proofs.Ytkenocamlaaajaa.fin
open Go Go.RowKit Go.Shelf Go.Proofs.Ytkenocamlaaajaa.mono
attribute [local go_sem] Oper.semAt_some

/-- a tree with these numbers -/
def IsT (w : World) (u : Value) (l : List Int) : Prop := ∃ p, u = .agg #[.pointer p] ∧ IsL Any w (.pointer p) 0 l
theorem IsT.on {w w' : World} {u : Value} {l : List Int} (h : IsT w u l) (hb : Below w.heap.size w w') : IsT w' u l := let ⟨p, e, h1⟩ := h; ⟨p, e, h1.on hb⟩
theorem IsT.val {w : World} {u : Value} {l : List Int} (h : IsT w u l) : ∃ p, u = .agg #[.pointer p] := let ⟨p, e, _⟩ := h; ⟨p, e⟩
theorem IsT.nil (w : World) : IsT w (.agg #[.pointer none]) [] := ⟨none, rfl, IsL.nil Any w 0⟩
theorem IsL.wf {Q : Nat → Prop} {w : World} {u : Value} {k : Nat} {l : List Int} (h : IsL Q w u k l) : ∀ x ∈ l, (Lit.int .i64 x).wf = true := by
  obtain ⟨_, t, _, _, ho, rfl⟩ := h
  exact ho.wf
theorem IsT.wf {w : World} {u : Value} {l : List Int} (h : IsT w u l) : ∀ x ∈ l, (Lit.int .i64 x).wf = true := let ⟨_, _, h1⟩ := h; h1.wf

theorem mall_calls {l B Bn : Nat} {J : List Int → World → Prop} (t : Lv) (p : Option Addr) (W : World) (hY : Yld l t.nums.length B J (fun _ _ => False)) (hc : hp.Blk W Bn 26 [.pointer p]) (hB : B ≤ W.heap.size) (hL : Lev (· < B) W t p) (ho : Lv.Ok 0 t) (hJ : J [] W) :
    Calls Try.prog 86 #[.func (.yield l) #[] #[], .pointer (some ⟨Bn, 0, none⟩)] W fun e W' => (∃ v, e = .returned v) ∧ J t.nums W' := by
  have H := each_level hY t 0 p [] W hB hL ho hJ (by simp)
  have c0 := hc.cell 0
  have hlt := hc.lt
  simp only [List.getElem?_cons_zero] at c0
  generalize t.nums = xs at *
  refine (callsIn_wide (n := 0)).1 ?_
  clear hL hc
  (refine callsIn_of_wp Try.func86 rfl trivial ?_ rfl; simp only [Try.ntmps86, List.size_toArray, List.length_cons, List.length_nil, Nat.reduceAdd, Nat.reduceSub, Array.replicate_succ, Array.replicate_zero, List.push_toArray, List.append_toArray, List.nil_append, List.cons_append])
  gi_wp2_with (refine ⟨trivial, rfl, ?_⟩; gi_at_call 87; (with_reducible refine (callsIn_any H).mono ?_); rintro e W3 (⟨rfl, hJ3, hb3⟩ | ⟨rfl, ys, hys, hJx⟩))
  go_end0
  exact ⟨⟨_, rfl⟩, by simpa using hJ3⟩

theorem enters_mall : ∀ args w, (callFunc 86 args).run Try.prog w = .ok (.enter 86 args) w := enters_of Try.func86 (by kernel_rfl) rfl
theorem enters_tall : ∀ args w, (callFunc 71 args).run Try.prog w = .ok (.enter 71 args) w := enters_of Try.func71 (by kernel_rfl) rfl
theorem mAll_any (p : Option Addr) (w : World) : Calls Try.prog 72 #[.agg #[.pointer p]] w fun e w' => e = .returned (.func (.func 86) #[] #[.pointer (some ⟨w.heap.size, 0, none⟩)]) ∧ w' = w.alloc (.cells #[.pointer p] 26) := by
  go_enter Try.func72, Try.ntmps72
  go_wp2
  go_ret
  exact ⟨rfl, rfl⟩
theorem tAll_any (p : Option Addr) (w : World) : Calls Try.prog 60 #[.agg #[.pointer p]] w fun e w' => e = .returned (.func (.func 71) #[] #[.pointer (some ⟨w.heap.size, 0, none⟩)]) ∧ w' = w.alloc (.cells #[.pointer p] 28) := by
  go_enter Try.func60, Try.ntmps60
  go_wp2
  go_ret
  exact ⟨rfl, rfl⟩
theorem round_in {m n r : Nat} {P : Program} {l : Nat} {f : FuncId} {tmps : Array Value} {assign body : Code} {w : World} {R : Ending → World → Prop} (h : RoundIn Fence.wide m P l f tmps assign body w R) : RoundIn (Fence.wide.inRound r) n P l f tmps assign body w R := (round_wide h : RoundIn Fence.wide n P l f tmps assign body w R)

set_option maxRecDepth 100000 in
set_option maxHeartbeats 4000000 in
theorem tall_calls {l n₀ M Bn : Nat} {J : List Int → World → Prop} (t : Lv) (p : Option Addr) (W : World) (hM : M ≤ W.heap.size) (hO : OwnFrom W.heap.size J)
    (hY : ∀ pre x V, J pre V → pre.length < t.nums.length → YieldAt Fence.wide 0 Try.prog l #[.int .i64 x] V fun e V' => e = .returned (.bool true) ∧ J (pre ++ [x]) V' ∧ Kp n₀ M 92 V V')
    (hc : hp.Blk W Bn 28 [.pointer p]) (hn : n₀ ≤ W.heap.size) (hL : Lev (· < n₀) W t p) (ho : Lv.Ok 0 t) (hJ : J [] W) :
    Calls Try.prog 71 #[.func (.yield l) #[] #[], .pointer (some ⟨Bn, 0, none⟩)] W fun e W' => (∃ v, e = .returned v) ∧ J t.nums W' := by
  have hlt := hc.lt
  have c0 := hc.cell 0
  simp only [List.getElem?_cons_zero] at c0
  refine callsIn_wide.1 (callsIn_of_wp_marks (F := Fence.wide) (n := 9) Try.func71 rfl trivial ?_ rfl)
  simp only [Try.ntmps71, List.size_toArray, List.length_cons, List.length_nil, Nat.reduceAdd, Nat.reduceSub, Array.replicate_succ, Array.replicate_zero, List.push_toArray, List.append_toArray, List.nil_append, List.cons_append]
  gi_wp2_with (refine ⟨trivial, ?_⟩; gi_at_call 72; refine (callsIn_wide.2 (mAll_any _ _)).mono ?_; rintro e w1 ⟨rfl, rfl⟩)
  obtain ⟨W0, hW0⟩ : ∃ W0, (W.alloc (.cells #[.func (.yield l) #[] #[]] 92)).alloc (.cells #[.pointer p] 26) = W0 := ⟨_, rfl⟩
  have hs0 : W0.heap.size = W.heap.size + 2 := by rw [← hW0]; simp
  have hb0 : Below W.heap.size W W0 := by rw [← hW0]; exact ((Below.refl _ W).alloc (Nat.le_refl _) _).alloc (by simp) _
  have hC0 : hp.Blk W0 (W.heap.size + 1) 26 [.pointer p] := by rw [← hW0]; exact hp.Blk.newAt (by simp)
  have hF0 : hp.Blk W0 W.heap.size 92 [.func (.yield l) #[] #[]] := by rw [← hW0]; exact (hp.Blk.new W [.func (.yield l) #[] #[]] _).alloc _
  have hJ0 : J [] W0 := by rw [← hW0]; exact hO.alloc _ (hO.alloc _ hJ)
  rw [hW0]
  clear hW0
  have hS : ∀ (W1 : World) (J1 : List Int → World → Prop), W1.heap.size = W0.heap.size + 2 → Below W0.heap.size W0 W1 → OwnFrom W1.heap.size J1 →
      (∀ pre x V, J1 pre V → pre.length < t.nums.length → YieldAt Fence.wide 0 Try.prog (W0.heap.size + 1) #[.int .i64 x] V fun e V' => e = .returned (.bool true) ∧ J1 (pre ++ [x]) V' ∧ Kp n₀ W1.heap.size 92 V V') → J1 [] W1 →
      Calls Try.prog 86 (#[.func (.yield (W0.heap.size + 1)) #[] #[]] ++ #[.pointer (some ⟨W.heap.size + 1, 0, none⟩)]) W1 fun e W' => (∃ v, e = .returned v) ∧ J1 t.nums W' := by
    intro W1 J1 h1 h2 h3 hY1 hJ1
    refine mall_calls (B := n₀) t p W1 ?_ (hC0.on h2) (by omega) (Lev.under (h2.mono (by omega)) (by omega) (Lev.under (hb0.mono (by omega)) (by omega) hL)) ho hJ1
    intro pre x V hJV hlen
    exact (hY1 pre x V hJV hlen).mono fun e V' ⟨h1, h2, h3⟩ => .inl ⟨h1, h2, h3.1⟩
  have hO2 : OwnFrom W0.heap.size (fun pre V => J pre V ∧ hp.Blk V W.heap.size 92 [.func (.yield l) #[] #[]]) := by
    rintro s A B row ⟨h1, h2⟩ hgr hrow
    exact ⟨hO s A B row h1 hgr fun r e => ⟨by have := (hrow r e).1; omega, (hrow r e).2⟩, rng.Turn.blk (B := W0.heap.size) ⟨row, hgr, hrow⟩ h2⟩
  apply range_on (gf := 86) (lb := #[.pointer (some ⟨W.heap.size + 1, 0, none⟩)]) rfl enters_mall t.nums rfl n₀ (by omega) 92 hS _ hO2 ⟨hJ0, hF0⟩
  · intro l x V K hK
    gi_wp2
    exact hK
  · rintro r pre x V ⟨hJV, hF⟩ hlen
    have c0 := hF.cell 0
    have hlt := hF.lt
    simp only [List.getElem?_cons_zero] at c0
    obtain ⟨fn, tmps, assign, body, hy, hR⟩ := hY pre x V hJV hlen
    gi_wp2
    refine (round_in hR).mono ?_
    rintro e V' ⟨rfl, hJ', hk⟩
    gi_wp2
    exact ⟨hk.up (by omega), hJ', hk.2.2 _ _ hF⟩
  · rintro V ⟨hJV, hF⟩ hd
    have hE : ∀ a : Act, a.defers = [{ target := .collected W0.heap.size, args := #[] }] → bodyPostM Fence.wide 9 Try.prog Try.f71 (fun e W' => (∃ v, e = Ending.returned v) ∧ J t.nums W') .ret a V := fun a ha =>
      rng.postM_ret hd ha (results_none rfl _ _ _) ⟨⟨_, rfl⟩, hO.putObj _ hJV (by omega) hd rfl⟩
    exact hE _ rfl

theorem field_n (a b c d e : Int) (W : World) : Sem.run Try.prog (Instr.field 42 (mv a b c d e) 0) W = .ok (.int .i64 a) W := by kernel_rfl
theorem mMeasure_any {p : Option Addr} {l : List Int} {w : World} (h : IsL Any w (.pointer p) 0 l) : Calls Try.prog 63 #[.agg #[.pointer p]] w fun e w' => e = .returned (mvOf l.length l) ∧ Below w.heap.size w w' := by
  obtain ⟨_, t, e, h1, -, h3⟩ := h
  cases e
  have H := fun W (K : Below w.heap.size w W) => total_any t p W (h1.on K) l h3
  have hR : hp.Blk ((w.alloc (.cells #[.pointer p] 26)).alloc (.cells #[.int .i64 0, .int .i64 0, .int .i64 0, .int .i64 0, .int .i64 0] 99)) (w.heap.size + 1) 99 [.int .i64 0, .int .i64 0, .int .i64 0, .int .i64 0, .int .i64 0] := hp.Blk.newAt (by simp)
  have K := ((Below.refl _ w).alloc (Nat.le_refl _) (.cells #[.pointer p] 26)).alloc (by simp) (.cells #[.int .i64 0, .int .i64 0, .int .i64 0, .int .i64 0, .int .i64 0] 99)
  have H1 := H _ K
  replace K := Lib.hid K
  clear h1 h3 H
  go_enter Try.func63, Try.ntmps63
  go_wp2_with (go_at_call 75; (with_reducible refine H1.mono ?_); rintro e w1 ⟨rfl, hb⟩; (have hR1 := hR.on hb; (obtain ⟨d0, d1, d2, d3, d4⟩ := hR1.cells5); have df := hR1.free; (obtain ⟨f0, f1, f2, f3, f4⟩ := (hR1.set5 (.int .i64 (l.length)) (.int .i64 (mono.sumOf l)) (.int .i64 (mono.lstOf l)) (.int .i64 (mono.mstOf l)) (.int .i64 (mono.hashOf l))).cells5)))
  refine bodyPost_ret (v := mono.mvOf l.length l) (by simp [results, Try.results63, go_sem, f0, f1, f2, f3, f4]) rfl ⟨rfl, ?_⟩
  have hb2 := K.out.trans (hb.mono (by simp; omega))
  ((repeat' (first | with_reducible exact Below.refl _ _ | with_reducible apply Below.setCell | with_reducible apply below_drewN | with_reducible apply Below.drew | with_reducible apply Below.alloc | with_reducible refine Below.trans ?_ (Below.mono (by assumption) ?_))) <;> (first | (simp; done) | (simp; omega) | omega))
theorem measure_any {u : Value} {l : List Int} {w : World} (h : IsT w u l) : Calls Try.prog 44 #[u] w fun e w' => e = .returned (mvOf l.length l) ∧ Below w.heap.size w w' := by
  obtain ⟨p, rfl, h⟩ := h
  have hR : hp.Blk ((w.alloc (.cells #[.pointer p] 28)).alloc (.cells #[.int .i64 0, .int .i64 0, .int .i64 0, .int .i64 0, .int .i64 0] 42)) (w.heap.size + 1) 42 [.int .i64 0, .int .i64 0, .int .i64 0, .int .i64 0, .int .i64 0] := hp.Blk.newAt (by simp)
  have K := ((Below.refl _ w).alloc (Nat.le_refl _) (.cells #[.pointer p] 28)).alloc (by simp) (.cells #[.int .i64 0, .int .i64 0, .int .i64 0, .int .i64 0, .int .i64 0] 42)
  have H1 := mMeasure_any (h.on K)
  replace K := Lib.hid K
  clear h
  go_enter Try.func44, Try.ntmps44
  go_wp2_with (go_at_call 63; (with_reducible refine H1.mono ?_); rintro e w1 ⟨rfl, hb⟩; (have hR1 := hR.on hb; (obtain ⟨d0, d1, d2, d3, d4⟩ := hR1.cells5); have df := hR1.free; (obtain ⟨f0, f1, f2, f3, f4⟩ := (hR1.set5 (.int .i64 (l.length)) (.int .i64 (mono.sumOf l)) (.int .i64 (mono.lstOf l)) (.int .i64 (mono.mstOf l)) (.int .i64 (mono.hashOf l))).cells5)))
  refine bodyPost_ret (v := mono.mvOf l.length l) (by simp [results, Try.results44, go_sem, f0, f1, f2, f3, f4]) rfl ⟨rfl, ?_⟩
  have hb2 := K.out.trans (hb.mono (by simp; omega))
  ((repeat' (first | with_reducible exact Below.refl _ _ | with_reducible apply Below.setCell | with_reducible apply below_drewN | with_reducible apply Below.drew | with_reducible apply Below.alloc | with_reducible refine Below.trans ?_ (Below.mono (by assumption) ?_))) <;> (first | (simp; done) | (simp; omega) | omega))

theorem blk_ne {w : World} {g g' : Nat} {t t' : TypeId} {cs cs' : List Value} (h : hp.Blk w g t cs) (h' : hp.Blk w g' t' cs') (ht : t ≠ t') : g ≠ g' := by
  rintro rfl
  unfold hp.Blk at h h'
  rw [h] at h'
  simp at h'
  exact ht h'.2
set_option maxRecDepth 100000 in
set_option maxHeartbeats 8000000 in
theorem ints_own (v : Value) (l : List Int) (w : World) (hv : IsT w v l) (hbd : l.length ≤ 35184372088832) :
    Calls Try.prog 41 #[v] w fun e w' => (∃ u, e = .returned u ∧ w'.ownsRow w.heap.size 3 1 u l.length (l.map (Value.int .i64))) ∧ Below w.heap.size w w' := by
  have hv0 := hv
  obtain ⟨p, rfl, _, t, ee, hL, ho, hl⟩ := hv
  cases ee
  have hL' : Lev (· < w.heap.size) w t p := (Lev.old hL).imp fun b h => h.2
  obtain ⟨i0, hi, hz0, hz1, hz2⟩ := info_parts same.infoInt
  have hA := hp.Blk.new w [.pointer p] 28
  have hb0 : Below w.heap.size w (w.alloc (.cells #[.pointer p] 28)) := by ((repeat' (first | with_reducible exact Below.refl _ _ | with_reducible apply Below.setCell | with_reducible apply below_drewN | with_reducible apply Below.drew | with_reducible apply Below.alloc | with_reducible refine Below.trans ?_ (Below.mono (by assumption) ?_))) <;> (first | (simp; done) | (simp; omega) | omega))
  have HM := measure_any (hv0.on hb0)
  clear hv0
  have hfd := field_n (l.length : Nat) (sumOf l) (lstOf l) (mstOf l) (hashOf l)
  refine rng.calls_of_marks Try.func41 rfl ?_
  simp only [Try.ntmps41, List.size_toArray, List.length_cons, List.length_nil, Nat.reduceAdd, Nat.reduceSub, Array.replicate_succ, Array.replicate_zero, List.push_toArray, List.append_toArray, List.nil_append, List.cons_append]
  go_wp2_with (first
    | (go_at_call 44; (with_reducible refine HM.mono ?_); rintro e wm ⟨rfl, hbm⟩; have hA2 := hA.on hbm; have hb2 := hb0.trans (hbm.mono hb0.size))
    | (at_make; refine wpList_make_own _ rfl _ _ 22 rfl w.heap.size 3 i0 (.int .i64 0) 1 Try.underlying22 hi hz0 hz1 .i64 .i64 _ l.length rfl rfl rfl (by rw [hz2]; omega) (by unfold maxLen; omega) (by have := hb2.size; omega) ?_; intro w1 hown1 hgrow1; have hb1 := (Below.refl _ _).grown hgrow1 (Nat.le_refl _) (fun k e => by cases e); have hA1 := hA2.on hb1; have c0 := hA1.cell 0; have hlt1 := hA1.lt; simp only [List.getElem?_cons_zero] at c0)
    | (go_at_call 60; refine (tAll_any _ _).mono ?_; rintro e w2 ⟨rfl, rfl⟩))
  obtain ⟨g, hg⟩ : ∃ g, wm.heap.size = g := ⟨_, rfl⟩
  rw [hg] at hown1
  have hbA := hb2.trans (hb1.mono hb2.size)
  have hs1 := hbA.size
  rw [hg]
  obtain ⟨W0, hW0⟩ : ∃ W0, (w1.alloc (.cells #[.slice (some ⟨g, 0, none⟩) 0 l.length] 22)).alloc (.cells #[.pointer p] 28) = W0 := ⟨_, rfl⟩
  have hs0 : W0.heap.size = w1.heap.size + 2 := by rw [← hW0]; simp
  have hC : hp.Blk W0 (w1.heap.size + 1) 28 [.pointer p] := by rw [← hW0]; exact hp.Blk.newAt (by simp)
  have hB : hp.Blk W0 w1.heap.size 22 [.slice (some ⟨g, 0, none⟩) 0 l.length] := by rw [← hW0]; exact (hp.Blk.new w1 [.slice (some ⟨g, 0, none⟩) 0 l.length] _).alloc _
  have hr0 : W0.ownsRow w.heap.size 3 1 (.slice (some ⟨g, 0, none⟩) 0 l.length) 0 [] := by rw [← hW0]; exact (hown1.alloc _).alloc _
  have hb3 : Below w.heap.size w W0 := by rw [← hW0]; exact (hbA.alloc hbA.size _).alloc (by simp; omega) _
  have hln : t.nums.length = l.length := by rw [hl]
  rw [hW0]
  refine (wpIn_wide (n := 9)).1 ?_
  have hS : ∀ (W1 : World) (J1 : List Int → World → Prop), W1.heap.size = W0.heap.size + 2 → Below W0.heap.size W0 W1 → OwnFrom W1.heap.size J1 →
      (∀ pre x V, J1 pre V → pre.length < t.nums.length → YieldAt Fence.wide 0 Try.prog (W0.heap.size + 1) #[.int .i64 x] V fun e V' => e = .returned (.bool true) ∧ J1 (pre ++ [x]) V' ∧ Kp w.heap.size W1.heap.size 92 V V') → J1 [] W1 →
      Calls Try.prog 71 (#[.func (.yield (W0.heap.size + 1)) #[] #[]] ++ #[.pointer (some ⟨w1.heap.size + 1, 0, none⟩)]) W1 fun e W' => (∃ v, e = .returned v) ∧ J1 t.nums W' :=
    fun W1 J1 h1 h2 h3 hY1 hJ1 => tall_calls t p W1 (Nat.le_refl _) h3 hY1 (hC.on h2) (by omega) (Lev.under (h2.mono hb3.size) hb3.size (Lev.under hb3 (Nat.le_refl _) hL')) ho hJ1
  have hO2 : OwnFrom W0.heap.size (fun (pre : List Int) V => Below w.heap.size w V ∧ hp.Blk V w1.heap.size 22 [.slice (some ⟨g, 0, none⟩) pre.length l.length] ∧ V.ownsRow w.heap.size 3 1 (.slice (some ⟨g, 0, none⟩) pre.length l.length) pre.length (pre.map (Value.int .i64))) := by
    rintro s A B row ⟨h1, h2, h3⟩ hgr hrow
    have T : rng.Turn W0.heap.size A B := ⟨row, hgr, hrow⟩
    exact ⟨T.below h1 hb3.size h1.size, T.blk h2, T.row h3⟩
  clear HM hA hL hL' hb0
  apply range_on (gf := 71) (lb := #[.pointer (some ⟨w1.heap.size + 1, 0, none⟩)]) rfl enters_tall t.nums rfl w.heap.size hb3.size 92 hS _ hO2 ⟨hb3, hB, hr0⟩
  · intro l x V K hK
    gi_wp2
    exact hK
  · rintro r pre x W ⟨hb, hk, hrow⟩ hlen
    rw [hln] at hlen
    have hd := hk.cell 0
    simp only [List.getElem?_cons_zero] at hd
    gi_wp2_with (gi_at_builtin; refine wpListIn_append_fits _ rfl _ _ 22 rfl w.heap.size 3 i0 1 Try.underlying22 hi hz1 g pre.length l.length _ rfl (hrow.alloc _) ⟨W.heap.size, 0, none⟩ 1 1 [.int .i64 x] rfl rfl (cell_one_new _ _ _) (by simp [Value.oneCell']) hlen ?_; intro w5 hown' hgrow; obtain ⟨hv1, hv2, hr2, hk2, hbb2⟩ := (show Boxed W _ _ _ from hk).appended (by decide) hrow hb.size (by omega) hown' hgrow; have hc1 := hv1.cell; have hf1 := hv1.frozen)
    refine ⟨⟨hbb2, hk2.from _, fun g' cs hF => ?_⟩, hb.trans hbb2, hv2⟩
    exact (hp.Blk.grown hF (by decide) hrow hgrow).other (blk_ne hF hk (by decide)) _
  · rintro V ⟨hb, hk, hrow⟩ hK
    have hd := hk.cell 0
    simp only [List.getElem?_cons_zero] at hd
    rw [hl] at hd hrow
    go_wp2
    refine rng.postM_ret hK rfl (results_tmp rfl _ _ _) ⟨⟨_, rfl, ?_⟩, ?_⟩
    · exact ownsRow_putObj hrow _ hK rfl
    · exact (rng.Turn.put (B := w.heap.size) _ hb3.size hK rfl).below hb (Nat.le_refl _) hb.size
theorem ints_any (v : Value) (l : List Int) (w : World) (hv : IsT w v l) (hbd : l.length ≤ 35184372088832) :
    Calls Try.prog 41 #[v] w fun e w' => (∃ u, e = .returned u ∧ hp.IsInts w' w'.heap.size u l) ∧ Below w.heap.size w w' :=
  (ints_own v l w hv hbd).mono fun _ _ ⟨⟨u, he, hu⟩, hb⟩ => ⟨⟨u, he, hp.IsInts.of_owns hu rfl hv.wf⟩, hb⟩
end Go.Proofs.Ytkenocamlaaajaa.fin
