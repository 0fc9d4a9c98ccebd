/- Package prio: Items. -/
import Derived.Test.YtfbeiimmcemniaaPriQue
import Derived.Test.YtfbeiimmcemniaaPriRef
namespace Go.Proofs.Ytfbeiimmcemniaa.pri
open Go Go.RowKit Go.Shelf
attribute [local go_sem] Oper.semAt_some

/-- the cells of a box -/
theorem cells_new (w : World) (x : Int × Int) (t : TypeId) : ∀ j u, ([.int .i64 x.1, .int .i64 x.2] : List Value)[j]? = some u → (w.alloc (.cells #[.int .i64 x.1, .int .i64 x.2] t)).cell? ((⟨w.heap.size, 0, none⟩ : Addr).add j) = some u := by
  intro j u hj
  rw [Addr.add_lit, Nat.zero_add]
  exact ((hp.Blk.new w [.int .i64 x.1, .int .i64 x.2] t).cell j).trans hj
theorem row_map (l : List (Int × Int)) (x : Int × Int) : rws.flat rws.pr l ++ [.int .i64 x.1, .int .i64 x.2] = rws.flat rws.pr (l ++ [x]) := by
  rw [rws.flat_app]
  rfl

set_option maxRecDepth 100000 in
set_option maxHeartbeats 8000000 in
theorem items_own (v : Value) (l : List (Int × Int)) (w : World) (hv : IsT w v l) (hbd : l.length ≤ 17592186044416) :
    Calls Try.prog 14 #[v] w fun e w' => (∃ u, e = .returned u ∧ w'.ownsRow w.heap.size 32 2 u l.length (rws.flat rws.pr l)) ∧ Below w.heap.size w w' := by
  have hv0 := hv
  obtain ⟨p, rfl, _, t, ee, hL, ho, hl⟩ := hv
  cases ee
  have hL' : Lev (· < w.heap.size) w t p := (Lev.old hL).imp fun b h => h.2
  obtain ⟨i0, hi, hz0, hz1, hz2⟩ := info_parts rws.infoItem
  have hA := hp.Blk.new w [.pointer p] 29
  have hb0 : Below w.heap.size w (w.alloc (.cells #[.pointer p] 29)) := by ((repeat' (first | with_reducible exact Below.refl _ _ | with_reducible apply Below.setCell | with_reducible apply below_drewN | with_reducible apply Below.drew | with_reducible apply Below.alloc | with_reducible refine Below.trans ?_ (Below.mono (by assumption) ?_))) <;> (first | (simp; done) | (simp; omega) | omega))
  have HM := len_any (hv0.on hb0)
  clear hv0
  refine rng.calls_of_marks Try.func14 rfl ?_
  simp only [Try.ntmps14, List.size_toArray, List.length_cons, List.length_nil, Nat.reduceAdd, Nat.reduceSub, Array.replicate_succ, Array.replicate_zero, List.push_toArray, List.append_toArray, List.nil_append, List.cons_append]
  go_wp2_with (first
    | (go_at_call 15; (with_reducible refine HM.mono ?_); rintro e wm ⟨rfl, hbm⟩; have hA2 := hA.on hbm; have hb2 := hb0.trans (hbm.mono hb0.size))
    | (at_make; refine wpList_make_own _ rfl _ _ 22 rfl w.heap.size 32 i0 (.agg #[.int .i64 0, .int .i64 0]) 2 Try.underlying22 hi hz0 hz1 .i64 .i64 _ l.length rfl rfl rfl (by rw [hz2]; omega) (by unfold maxLen; omega) (by have := hb2.size; omega) ?_; intro w1 hown1 hgrow1; have hb1 := (Below.refl _ _).grown hgrow1 (Nat.le_refl _) (fun k e => by cases e); have hA1 := hA2.on hb1; have c0 := hA1.cell 0; have hlt1 := hA1.lt; simp only [List.getElem?_cons_zero] at c0)
    | (go_at_call 21; refine (mAll_any _ _).mono ?_; rintro e w2 ⟨rfl, rfl⟩))
  obtain ⟨g, hg⟩ : ∃ g, wm.heap.size = g := ⟨_, rfl⟩
  rw [hg] at hown1
  have hbA := hb2.trans (hb1.mono hb2.size)
  have hs1 := hbA.size
  rw [hg]
  obtain ⟨W0, hW0⟩ : ∃ W0, (w1.alloc (.cells #[.slice (some ⟨g, 0, none⟩) 0 l.length] 22)).alloc (.cells #[.pointer p] 27) = W0 := ⟨_, rfl⟩
  have hs0 : W0.heap.size = w1.heap.size + 2 := by rw [← hW0]; simp
  have hC : hp.Blk W0 (w1.heap.size + 1) 27 [.pointer p] := by rw [← hW0]; exact hp.Blk.newAt (by simp)
  have hB : hp.Blk W0 w1.heap.size 22 [.slice (some ⟨g, 0, none⟩) 0 l.length] := by rw [← hW0]; exact (hp.Blk.new w1 [.slice (some ⟨g, 0, none⟩) 0 l.length] _).alloc _
  have hr0 : W0.ownsRow w.heap.size 32 2 (.slice (some ⟨g, 0, none⟩) 0 l.length) 0 [] := by rw [← hW0]; exact (hown1.alloc _).alloc _
  have hb3 : Below w.heap.size w W0 := by rw [← hW0]; exact (hbA.alloc hbA.size _).alloc (by simp; omega) _
  have hln : t.nums.length = l.length := by rw [hl]
  rw [hW0]
  refine (wpIn_wide (n := 9)).1 ?_
  have hS : ∀ (W1 : World) (J1 : List (Int × Int) → World → Prop), W1.heap.size = W0.heap.size + 2 → Below W0.heap.size W0 W1 → OwnFrom W1.heap.size J1 →
      (∀ pre x V, J1 pre V → pre.length < t.nums.length → YieldAt Fence.wide 0 Try.prog (W0.heap.size + 1) #[.agg #[.int .i64 x.1, .int .i64 x.2]] V fun e V' => e = .returned (.bool true) ∧ J1 (pre ++ [x]) V' ∧ Kp w.heap.size W1.heap.size 27 V V') → J1 [] W1 →
      Calls Try.prog 29 (#[.func (.yield (W0.heap.size + 1)) #[] #[]] ++ #[.pointer (some ⟨w1.heap.size + 1, 0, none⟩)]) W1 fun e W' => (∃ v, e = .returned v) ∧ J1 t.nums W' := by
    intro W1 J1 h1 h2 h3 hY1 hJ1
    refine mall_calls (B := w.heap.size) t p W1 ?_ (hC.on h2) (by have := hb3.size; omega) (Lev.under (h2.mono hb3.size) hb3.size (Lev.under hb3 (Nat.le_refl _) hL')) ho hJ1
    intro pre x V hJV hlen
    exact (hY1 pre x V hJV hlen).mono fun e V' ⟨h1, h2, h3⟩ => .inl ⟨h1, h2, h3.1⟩
  have hO2 : OwnFrom W0.heap.size (fun (pre : List (Int × Int)) V => Below w.heap.size w V ∧ hp.Blk V w1.heap.size 22 [.slice (some ⟨g, 0, none⟩) pre.length l.length] ∧ V.ownsRow w.heap.size 32 2 (.slice (some ⟨g, 0, none⟩) pre.length l.length) pre.length (rws.flat rws.pr pre)) := by
    rintro s A B row ⟨h1, h2, h3⟩ hgr hrow
    have T : rng.Turn W0.heap.size A B := ⟨row, hgr, hrow⟩
    exact ⟨T.below h1 hb3.size h1.size, T.blk h2, T.row h3⟩
  clear HM hA hL hL' hb0
  apply range_on (gf := 29) (lb := #[.pointer (some ⟨w1.heap.size + 1, 0, none⟩)]) rfl enters_mall t.nums rfl w.heap.size hb3.size 27 hS _ hO2 ⟨hb3, hB, hr0⟩ (tE := 48) (cE := fun x => [.int .i64 x.1, .int .i64 x.2])
  · intro l x V K hK
    gi_wp2
    exact hK
  · rintro r pre x V W ⟨hb, hk, hrow⟩ hbx hVs hlen
    rw [hln] at hlen
    have hd := hk.cell 0
    obtain ⟨x0, x1⟩ := hbx.cellsM
    have lx := hbx.lt
    simp only [List.getElem?_cons_zero] at hd
    gi_wp2_with (gi_at_builtin; refine wpListIn_append_fits _ rfl _ _ 22 rfl w.heap.size 32 i0 2 Try.underlying22 hi hz1 g pre.length l.length _ rfl (hrow.alloc _) ⟨W.heap.size, 0, none⟩ 1 1 [.int .i64 x.1, .int .i64 x.2] rfl rfl (cells_new _ _ _) (by simp [Value.oneCell']) hlen ?_; intro w5 hown' hgrow; obtain ⟨hv1, hv2, hr2, hk2, hbb2⟩ := (show Boxed W _ _ _ from hk).appended (by decide) hrow hb.size (by omega) hown' hgrow; have hc1 := hv1.cell; have hf1 := hv1.frozen)
    rw [row_map] at hr2
    refine ⟨⟨hbb2, hk2.from _, fun g' cs hF => ?_⟩, hb.trans hbb2, hv2, hr2⟩
    exact (hp.Blk.grown hF (by decide) hrow hgrow).other (blk_ne hF hk (by decide)) _
  · rintro V ⟨hb, hk, hrow⟩ hK
    have hd := hk.cell 0
    simp only [List.getElem?_cons_zero] at hd
    rw [hl] at hd hrow
    go_wp2
    refine rng.postM_ret hK rfl (results_tmp rfl _ _ _) ⟨⟨_, rfl, ?_⟩, ?_⟩
    · exact ownsRow_putObj hrow _ hK rfl
    · exact (rng.Turn.put (B := w.heap.size) _ hb3.size hK rfl).below hb (Nat.le_refl _) hb.size
theorem items_any (v : Value) (l : List (Int × Int)) (w : World) (hv : IsT w v l) (hbd : l.length ≤ 17592186044416) :
    Calls Try.prog 14 #[v] w fun e w' => (∃ u, e = .returned u ∧ rws.IsRw rws.pr w' w'.heap.size u l) ∧ Below w.heap.size w w' :=
  (items_own v l w hv hbd).mono fun _ _ ⟨⟨u, he, hu⟩, hb⟩ => ⟨⟨u, he, rws.IsRw.of_owns hu rfl⟩, hb⟩
end Go.Proofs.Ytfbeiimmcemniaa.pri
