/- Package list: its numbers, in order. -/
import Derived.Test.YtkenocamlaaajaaLstAll
import Derived.Test.YtkenocamlaaajaaRng
namespace Go.Proofs.Ytkenocamlaaajaa.lst
open Go Go.RowKit Go.Shelf
attribute [local go_sem] Oper.semAt_some

theorem infoInt : (Try.prog.info? 3).map (fun i => (i.zero, i.size, i.bytes)) = some (some (.int .i64 0), 1, 8) := by kernel_rfl
theorem enters_all : ∀ args w, (callFunc 66 args).run Try.prog w = .ok (.enter 66 args) w := enters_of Try.func66 (by kernel_rfl) rfl

theorem _root_.Go.Proofs.Ytkenocamlaaajaa.rng.Turn.chain {B n : Nat} {W W' : World} (h : rng.Turn B W W') : ∀ {p : Option Addr} {xs : List Int}, Chain n W p xs → Chain n W' p xs
  | _, [], hl => hl
  | _, _ :: _, ⟨b, q, he, hb, hv, hr⟩ => ⟨b, q, he, hb, h.blk hv, h.chain hr⟩
theorem _root_.Go.Proofs.Ytkenocamlaaajaa.rng.Turn.list {B : Nat} {W W' : World} (h : rng.Turn B W W') {v : Value} {l : List Int} (hv : IsList W W.heap.size v l) : IsList W' W'.heap.size v l := by
  obtain ⟨p, he, hc, hw⟩ := hv
  exact ⟨p, he, (h.chain hc).mono h.size, hw⟩

set_option maxHeartbeats 4000000 in
theorem ints_own (v : Value) (l : List Int) (w : World) (hv : IsList w w.heap.size v l) (hbd : l.length ≤ 35184372088832) :
    Calls Try.prog 31 #[v] w fun e w' => (∃ u, e = .returned u ∧ w'.ownsRow w.heap.size 3 1 u l.length (l.map (Value.int .i64))) ∧ Below w.heap.size w w' := by
  obtain ⟨p, rfl, hc, hw⟩ := hv
  obtain ⟨i0, hi, hz0, hz1, hz2⟩ := info_parts infoInt
  (refine rng.calls_of_marks Try.func31 rfl ?_; simp only [Try.ntmps31, List.size_toArray, List.length_cons, List.length_nil, Nat.reduceAdd, Nat.reduceSub, Array.replicate_succ, Array.replicate_zero, List.push_toArray, List.append_toArray, List.nil_append, List.cons_append])
  have hA := hp.Blk.new w [.pointer p, .int .i64 l.length] 56
  have hb0 : Below w.heap.size w (w.alloc (.cells #[.pointer p, .int .i64 l.length] 56)) := by
    ((repeat' (first | with_reducible exact Below.refl _ _ | with_reducible apply Below.setCell | with_reducible apply below_drewN | with_reducible apply Below.drew | with_reducible apply Below.alloc | with_reducible refine Below.trans ?_ (Below.mono (by assumption) ?_))) <;> (first | (simp; done) | (simp; omega) | omega))
  go_wp2_with (first | (at_make; refine wpList_make_own _ rfl _ _ 22 rfl w.heap.size 3 i0 (.int .i64 0) 1 Try.underlying22 hi hz0 hz1 .i64 .i64 _ l.length rfl rfl rfl (by rw [hz2]; omega) (by unfold maxLen; omega) (by simp) ?_; intro w1 hown1 hgrow1; rw [World.size_alloc] at hown1; have hb1 := (Below.refl _ _).grown hgrow1 (Nat.le_refl _) (fun k e => by cases e); have hA1 := hA.on hb1; obtain ⟨c0, c1⟩ := hA1.cells2; have hlt1 := hA1.lt) | (go_at_call 49; refine (all_any _ _ _).mono ?_; rintro e w2 ⟨rfl, rfl⟩))
  have hb2 : Below w.heap.size w w1 := hb0.trans (hb1.mono (by simp))
  obtain ⟨W0, hW0⟩ : ∃ W0, (w1.alloc (.cells #[.slice (some ⟨w.heap.size + 1, 0, none⟩) 0 l.length] 22)).alloc (.cells #[.pointer p, .int .i64 l.length] 56) = W0 := ⟨_, rfl⟩
  have hC : hp.Blk W0 (w1.heap.size + 1) 56 [.pointer p, .int .i64 l.length] := by rw [← hW0]; exact hp.Blk.new1 _ _ _ _
  have hB : hp.Blk W0 w1.heap.size 22 [.slice (some ⟨w.heap.size + 1, 0, none⟩) 0 l.length] := by rw [← hW0]; exact (hp.Blk.new w1 [.slice (some ⟨w.heap.size + 1, 0, none⟩) 0 l.length] _).alloc _
  have hr0 : W0.ownsRow w.heap.size 3 1 (.slice (some ⟨w.heap.size + 1, 0, none⟩) 0 l.length) 0 [] := by rw [← hW0]; exact (hown1.alloc _).alloc _
  have hb3 : Below w.heap.size w W0 := by rw [← hW0]; exact (hb2.alloc hb2.size _).alloc (by simp; have := hb2.size; omega) _
  rw [hW0]
  apply rng.wp_range (gf := 66) (lb := #[.pointer (some ⟨w1.heap.size + 1, 0, none⟩)]) rfl enters_all hb3.size
    (all_stops 8 (w1.heap.size + 1) w.heap.size p l.length l W0 hb3.size hC (hc.below hb3)) (fun _ => rfl)
    (fun pre W => Below w.heap.size w W ∧ hp.Blk W w1.heap.size 22 [.slice (some ⟨w.heap.size + 1, 0, none⟩) pre.length l.length] ∧ W.ownsRow w.heap.size 3 1 (.slice (some ⟨w.heap.size + 1, 0, none⟩) pre.length l.length) pre.length (pre.map (Value.int .i64)))
    (fun _ _ _ => False)
    (by rintro s W W' ⟨h1, h2, h3⟩ T; exact ⟨T.below h1 hb3.size h1.size, T.blk h2, T.row h3⟩)
    (fun _ _ _ _ h _ => h)
    ⟨hb3, hB, hr0⟩
  · intro l x W K hK
    gi_wp2
    exact hK
  · rintro r pre x W ⟨hb, hk, hrow⟩ hlen
    have hd := hk.cell 0
    simp only [List.getElem?_cons_zero] at hd
    gi_wp2_with (gi_at_builtin; refine wpListIn_append_fits _ rfl _ _ 22 rfl w.heap.size 3 i0 1 Try.underlying22 hi hz1 (w.heap.size + 1) pre.length l.length _ rfl (hrow.alloc _) ⟨W.heap.size, 0, none⟩ 1 1 [.int .i64 x] rfl rfl (cell_one_new _ _ _) (by simp [Value.oneCell']) hlen ?_; intro w1 hown' hgrow; obtain ⟨hv1, hv2, hr2, hk2, hbb2⟩ := (show Boxed W _ _ _ from hk).appended (by decide) hrow hb.size (by omega) hown' hgrow; have hc1 := hv1.cell; have hf1 := hv1.frozen)
    exact ⟨⟨hk2.from _, hbb2⟩, hb.trans hbb2, hv2⟩
  · rintro D ys W hD rfl ⟨hb, hk, hrow⟩ hK
    have hd := hk.cell 0
    simp only [List.getElem?_cons_zero] at hd
    go_wp2
    refine rng.postM_ret hK rfl (results_tmp rfl _ _ _) ⟨⟨_, rfl, ?_⟩, ?_⟩
    · exact ownsRow_putObj hrow _ hK rfl
    · exact (rng.Turn.put (B := w.heap.size) _ (by have := hb3.size; omega) hK rfl).below hb (Nat.le_refl _) hb.size
  · rintro D c pre W _ _ h _
    exact h.elim

theorem ints_any (v : Value) (l : List Int) (w : World) (hv : IsList w w.heap.size v l) (hbd : l.length ≤ 35184372088832) :
    Calls Try.prog 31 #[v] w fun e w' => (∃ u, e = .returned u ∧ hp.IsInts w' w'.heap.size u l) ∧ Below w.heap.size w w' :=
  (ints_own v l w hv hbd).mono fun _ _ ⟨⟨u, he, hu⟩, hb⟩ => ⟨⟨u, he, hp.IsInts.of_owns hu rfl hv.wf⟩, hb⟩
end Go.Proofs.Ytkenocamlaaajaa.lst
