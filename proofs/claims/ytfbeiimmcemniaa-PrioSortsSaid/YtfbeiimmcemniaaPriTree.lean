/- Package measured: a tree's methods. -/
import Derived.Test.YtfbeiimmcemniaaPriRange
import Derived.Test.YtfbeiimmcemniaaPriPop
import Derived.Test.YtfbeiimmcemniaaPriPushR
import Derived.Test.YtfbeiimmcemniaaPriJoin
import Derived.Maps.AppendAt
namespace Go.Proofs.Ytfbeiimmcemniaa.pri
open Go Go.RowKit Go.Shelf
attribute [local go_sem] Oper.semAt_some

open Go Go.RowKit Go.Shelf
attribute [local go_sem] Oper.semAt_some

/-- a tree with these numbers -/
def IsT (w : World) (u : Value) (l : List (Int × Int)) : Prop := ∃ p, u = .agg #[.pointer p] ∧ IsL Any w (.pointer p) 0 l
theorem IsT.on {w w' : World} {u : Value} {l : List (Int × Int)} (h : IsT w u l) (hb : Below w.heap.size w w') : IsT w' u l := let ⟨p, e, h1⟩ := h; ⟨p, e, h1.on hb⟩
theorem IsT.val {w : World} {u : Value} {l : List (Int × Int)} (h : IsT w u l) : ∃ p, u = .agg #[.pointer p] := let ⟨p, e, _⟩ := h; ⟨p, e⟩
theorem IsT.nil (w : World) : IsT w (.agg #[.pointer none]) [] := ⟨none, rfl, IsL.nil Any w 0⟩
theorem IsL.wf {Q : Nat → Prop} {w : World} {u : Value} {k : Nat} {l : List (Int × Int)} (h : IsL Q w u k l) : ∀ x ∈ l, rws.WfP x := by
  obtain ⟨_, t, _, _, ho, rfl⟩ := h
  exact ho.wf
theorem IsT.wf {w : World} {u : Value} {l : List (Int × Int)} (h : IsT w u l) : ∀ x ∈ l, rws.WfP x := let ⟨_, _, h1⟩ := h; h1.wf

theorem mall_calls {l B Bn : Nat} {J : List (Int × Int) → World → Prop} (t : Lv) (p : Option Addr) (W : World) (hY : Yld l t.nums.length B J (fun _ _ => False)) (hc : hp.Blk W Bn 27 [.pointer p]) (hB : B ≤ W.heap.size) (hL : Lev (· < B) W t p) (ho : Lv.Ok 0 t) (hJ : J [] W) :
    Calls Try.prog 29 #[.func (.yield l) #[] #[], .pointer (some ⟨Bn, 0, none⟩)] W fun e W' => (∃ v, e = .returned v) ∧ J t.nums W' := by
  have H := each_level hY t 0 p [] W hB hL ho hJ (by simp)
  have c0 := hc.cell 0
  have hlt := hc.lt
  simp only [List.getElem?_cons_zero] at c0
  generalize t.nums = xs at *
  refine (callsIn_wide (n := 0)).1 ?_
  clear hL hc
  (refine callsIn_of_wp Try.func29 rfl trivial ?_ rfl; simp only [Try.ntmps29, List.size_toArray, List.length_cons, List.length_nil, Nat.reduceAdd, Nat.reduceSub, Array.replicate_succ, Array.replicate_zero, List.push_toArray, List.append_toArray, List.nil_append, List.cons_append])
  gi_wp2_with (refine ⟨trivial, rfl, ?_⟩; gi_at_call 30; (with_reducible refine (callsIn_any H).mono ?_); rintro e W3 (⟨rfl, hJ3, hb3⟩ | ⟨rfl, ys, hys, hJx⟩))
  go_end0
  exact ⟨⟨_, rfl⟩, by simpa using hJ3⟩

theorem enters_mall : ∀ args w, (callFunc 29 args).run Try.prog w = .ok (.enter 29 args) w := enters_of Try.func29 (by kernel_rfl) rfl
theorem mAll_any (p : Option Addr) (w : World) : Calls Try.prog 21 #[.agg #[.pointer p]] w fun e w' => e = .returned (.func (.func 29) #[] #[.pointer (some ⟨w.heap.size, 0, none⟩)]) ∧ w' = w.alloc (.cells #[.pointer p] 27) := by
  go_enter Try.func21, Try.ntmps21
  go_wp2
  go_ret
  exact ⟨rfl, rfl⟩
theorem round_in {m n r : Nat} {P : Program} {l : Nat} {f : FuncId} {tmps : Array Value} {assign body : Code} {w : World} {R : Ending → World → Prop} (h : RoundIn Fence.wide m P l f tmps assign body w R) : RoundIn (Fence.wide.inRound r) n P l f tmps assign body w R := (round_wide h : RoundIn Fence.wide n P l f tmps assign body w R)

theorem mMeasure_any {p : Option Addr} {l : List (Int × Int)} {w : World} (h : IsL Any w (.pointer p) 0 l) : Calls Try.prog 22 #[.agg #[.pointer p]] w fun e w' => e = .returned (mvOf l.length l) ∧ Below w.heap.size w w' := by
  obtain ⟨_, t, e, h1, -, h3⟩ := h
  cases e
  have H := fun W (K : Below w.heap.size w W) => total_any t p W (h1.on K) l h3
  have hR : hp.Blk ((w.alloc (.cells #[.pointer p] 27)).alloc (.cells #[.int .i64 0, .int .i64 0] 50)) (w.heap.size + 1) 50 [.int .i64 0, .int .i64 0] := hp.Blk.newAt (by simp)
  have K := ((Below.refl _ w).alloc (Nat.le_refl _) (.cells #[.pointer p] 27)).alloc (by simp) (.cells #[.int .i64 0, .int .i64 0] 50)
  have H1 := H _ K
  replace K := Lib.hid K
  clear h1 h3 H
  go_enter Try.func22, Try.ntmps22
  go_wp2_with (go_at_call 31; (with_reducible refine H1.mono ?_); rintro e w1 ⟨rfl, hb⟩; (have hR1 := hR.on hb; (obtain ⟨d0, d1⟩ := hR1.cellsM); have df := hR1.free; (obtain ⟨f0, f1⟩ := (hR1.setM (.int .i64 (l.length)) (.int .i64 (pri.topOf l))).cellsM)))
  refine bodyPost_ret (v := pri.mvOf l.length l) (by simp [results, Try.results22, go_sem, f0, f1]) rfl ⟨rfl, ?_⟩
  have hb2 := K.out.trans (hb.mono (by simp; omega))
  ((repeat' (first | with_reducible exact Below.refl _ _ | with_reducible apply Below.setCell | with_reducible apply below_drewN | with_reducible apply Below.drew | with_reducible apply Below.alloc | with_reducible refine Below.trans ?_ (Below.mono (by assumption) ?_))) <;> (first | (simp; done) | (simp; omega) | omega))
theorem blk_ne {w : World} {g g' : Nat} {t t' : TypeId} {cs cs' : List Value} (h : hp.Blk w g t cs) (h' : hp.Blk w g' t' cs') (ht : t ≠ t') : g ≠ g' := by
  rintro rfl
  unfold hp.Blk at h h'
  rw [h] at h'
  simp at h'
  exact ht h'.2
open Go Go.RowKit

theorem IsT.keep {w w' : World} {u : Value} {l : List (Int × Int)} (h : IsT w u l) (hk : Keep w w') : IsT w' u l := let ⟨p, e, h1⟩ := h; ⟨p, e, h1.keep hk⟩
theorem any_ok (w : World) : ∀ b, w.heap.size ≤ b → Any b := fun _ _ => trivial
theorem IsT.mk {w : World} {p : Option Addr} {l : List (Int × Int)} (h : IsL Any w (.pointer p) 0 l) : IsT w (.agg #[.pointer p]) l := ⟨p, rfl, h⟩
theorem keep_mtree {W : World} {g : Nat} {cs : List Value} (hg : hp.Blk W g 27 cs) (o : Nat) (v : Value) : Keep W (W.setCell ⟨g, o, none⟩ v) := Keep.of_set hg (by decide) (by decide) (by decide) v
theorem keep_drew (W : World) : Keep W W.drew := fun _ _ _ _ h => h

theorem mJoin_any {p q : Option Addr} {l r : List (Int × Int)} {w : World} (L : List (Int × Int)) (h : IsL Any w (.pointer p) 0 l) (h' : IsL Any w (.pointer q) 0 r) (hL : l ++ r = L) (hbd : L.length ≤ 4611686018427387904) :
    Calls Try.prog 20 #[.agg #[.pointer p], .agg #[.pointer q]] w fun e w' => (∃ u, e = .returned u ∧ IsT w' u L) ∧ Below w.heap.size w w' := by
  obtain ⟨W, hW⟩ : ∃ W, ((w.alloc (.cells #[.pointer p] 27)).alloc (.cells #[.pointer q] 27)).alloc (.cells #[.pointer none] 27) = W := ⟨_, rfl⟩
  have hA : hp.Blk W w.heap.size 27 [.pointer p] := by rw [← hW]; exact ((hp.Blk.new w [.pointer p] _).alloc _).alloc _
  have hB : hp.Blk W (w.heap.size + 1) 27 [.pointer q] := by rw [← hW]; exact (hp.Blk.newAt (by simp)).alloc _
  have hR : hp.Blk W (w.heap.size + 1 + 1) 27 [.pointer none] := by rw [← hW]; exact hp.Blk.newAt (by simp)
  have hb : Below w.heap.size w W := by rw [← hW]; ((repeat' (first | with_reducible exact Below.refl _ _ | with_reducible apply Below.setCell | with_reducible apply below_drewN | with_reducible apply Below.drew | with_reducible apply Below.alloc | with_reducible refine Below.trans ?_ (Below.mono (by assumption) ?_))) <;> (first | (simp; done) | (simp; omega) | omega))
  have a0 := hA.cell 0
  have l0 := hA.lt
  have b0 := hB.cell 0
  have l1 := hB.lt
  simp only [List.getElem?_cons_zero] at a0 b0
  have J : Calls Try.prog 28 #[.pointer p, .slice none 0 0, .pointer q] W fun e w' => (∃ u, e = .returned u ∧ IsL Any w' u 0 L) ∧ Below W.heap.size W w' := by
    obtain ⟨_, t, e, h1, h2, h3⟩ := h.on hb
    cases e
    obtain ⟨_, t', e, h1', h2', h3'⟩ := h'.on hb
    cases e
    exact join_any t t' 0 p q _ [] W L (any_ok W) h1 h2 h1' h2' (Row.nil _ _) (Hts.nil _) (by simp) (by rw [h3, h3', flat_nil, List.append_nil, hL]) hbd
  clear h h' hL hbd hA hB
  go_enter Try.func20, Try.ntmps20
  go_wp2_with (go_at_call 28; (with_reducible refine J.mono ?_); clear J; rintro e w9 ⟨⟨u, rfl, hu⟩, K9⟩; have hu0 := hu; (obtain ⟨pu, _, rfl, -⟩ := hu0); have hR9 := hR.on K9; have d0 := hR9.cell 0; have df := hR9.free; have f0 := (hR9.set 0 (.pointer pu)).cell 0; simp only [List.getElem?_cons_zero, List.set_cons_zero] at d0 f0)
  exact bodyPost_ret (v := .agg #[.pointer pu]) (by simp [results, Try.results20, go_sem, f0]) rfl ⟨⟨_, rfl, IsT.mk (hu.keep (keep_mtree hR9 _ _))⟩, (hb.trans (K9.mono hb.size)).setCell (p := ⟨w.heap.size + 1 + 1, 0, none⟩) (by simp; omega) _⟩
end Go.Proofs.Ytfbeiimmcemniaa.pri
