/- Package splay: a tree of a list; sets. -/
import Derived.Test.YtlaflhnnddfkkaaSplOps
import Derived.Test.YtlaflhnnddfkkaaSchDist
import Derived.Test.YtlaflhnnddfkkaaInts
namespace Go.Proofs.Ytlaflhnnddfkkaa.spl
open Go Go.RowKit
open Go.Proofs.Ytlaflhnnddfkkaa.sch

abbrev tyH : TypeId := 27

abbrev fover : Value := .func (.func 51) #[] #[]

theorem over_made {x : Int} {a b : List Int} {p q : Option Addr} {w : World} (ha : IsG w (.pointer p) (Has a)) (hb : IsG w (.pointer q) (Has b)) :
    Calls Try.prog 51 #[.int .i64 x, .pointer p, .pointer q] w fun e w' => (∃ u, e = .returned u ∧ IsG w' u (Has (a ++ x :: b))) ∧ Below w.heap.size w w' := by
  obtain ⟨_, s, he, hn, hk⟩ := ha
  obtain ⟨_, t, he2, hn2, hk2⟩ := hb
  cases he
  cases he2
  refine (over_any (x := x) hn.t hn2.t).mono ?_
  rintro e w' ⟨⟨u, rfl, h⟩, hb⟩
  exact ⟨⟨u, rfl, h.g (by unfold Has at *; simp only [keys]; rw [hk, hk2])⟩, hb⟩

attribute [-go_sem] sliced in
set_option maxHeartbeats 8000000 in
theorem of_tree : ∀ (N : Nat) (l : List Int) (v : Value) (w : World), l.length ≤ N → l.length < 1152921504606846976 → hp.IsInts w w.heap.size v l →
    Calls Try.prog 50 #[v, fover] w fun e w' => (∃ u, e = .returned u ∧ IsG w' u (Has l)) ∧ Below w.heap.size w w' := by
  intro N
  have hnil : ∀ w, IsG w (.pointer none) (Has []) := fun w => ⟨none, .nil, rfl, rfl, rfl⟩
  induction N with
  | zero =>
    intro l v w hN hbd hv
    obtain rfl : l = [] := List.eq_nil_of_length_eq_zero (by omega)
    obtain ⟨ad, cap, rfl, -⟩ := hv
    go_enter Try.func50, Try.ntmps50
    go_wp2_with fail
    go_ret
    exact ⟨⟨_, rfl, hnil _⟩, Below.refl _ _⟩
  | succ N ih =>
    intro l v w hN hbd hv
    by_cases h0 : l = []
    · subst h0
      obtain ⟨ad, cap, rfl, -⟩ := hv
      clear ih hN
      go_enter Try.func50, Try.ntmps50
      go_wp2_with fail
      go_ret
      exact ⟨⟨_, rfl, hnil _⟩, Below.refl _ _⟩
    have h1 : 1 ≤ l.length := by rcases l with _ | ⟨x, l⟩ <;> simp at h0 ⊢
    obtain ⟨n, hn⟩ : ∃ n, l.length = n := ⟨_, rfl⟩
    obtain ⟨k, hk⟩ : ∃ k, n / 2 = k := ⟨_, rfl⟩
    have hv' := hv
    obtain ⟨ad, cap, rfl, hcap, -, -, hc⟩ := hv'
    obtain ⟨b, off, rfl, hb, hcell⟩ := hc (by omega)
    have cx := hcell k (by omega)
    have s1 := fun W (hW : Below w.heap.size w W) => ih (l.take k) _ W (by simp; omega) (by simp; omega) (((hv.below hW).mono hW.size).sliced (i := 0) (j := k) (Nat.zero_le _) (by omega))
    have s2 := fun W (hW : Below w.heap.size w W) => ih (l.drop (k + 1)) _ W (by simp; omega) (by simp; omega) (((hv.below hW).mono hW.size).from (i := k + 1) (by omega))
    have s3 := fun W p q (hp : IsG W (.pointer p) (Has (l.take k))) (hq : IsG W (.pointer q) (Has (l.drop (k + 1)))) => over_made (x := l.getD k 0) hp hq
    have hl : l.take k ++ l.getD k 0 :: l.drop (k + 1) = l := by
      have := List.take_append_drop k l
      rw [List.drop_eq_getElem_cons (by omega)] at this
      rw [show l.getD k 0 = l[k] by simp [show k < l.length by omega]]
      exact this
    rw [hl] at s3
    rw [hn] at s2 h1 hcap ⊢
    generalize hT : l.take k = T at *
    generalize hD : l.drop (k + 1) = D at *
    generalize l.getD k 0 = x at *
    generalize Has T = GT at *
    generalize Has D = GD at *
    generalize Has l = GL at *
    have hq : ((n : Int)).tdiv 2 = (k : Int) := by rw [Int.tdiv_eq_ediv_of_nonneg (by omega)]; omega
    have hkn : k + 1 ≤ n := by omega
    have hn2 : n < 1152921504606846976 := by omega
    have K := Below.refl w.heap.size w
    clear ih hN hbd hv hn hk hnil hT hD hl h0 hc hcell
    go_enter Try.func50, Try.ntmps50
    go_wp2_with fail
    apply rel.region_tail (C := fun w' => Below w.heap.size w w') (X := fun w w' => Below w.heap.size w w') 17 (by kernel_rfl) (by kernel_rfl) (by kernel_rfl) (by kernel_rfl) (K.drew)
    (apply rel.walk_val; (focus (intro wq hq hf; go_wp2; refine ⟨hq, Below.refl _ _, ?_, rfl⟩; (show rel.slot _ _ = _; simp only [rel.slot_lit, List.getD_cons_succ, List.getD_cons_zero]; (first | done | exact rfl)))); (simp only [rel.put_lit, List.set_cons_succ, List.set_cons_zero]))
    (apply rel.walk_val; (focus (intro wq hq hf; go_wp2; refine ⟨hq, Below.refl _ _, ?_, rfl⟩; (show rel.slot _ _ = _; simp only [rel.slot_lit, List.getD_cons_succ, List.getD_cons_zero]; (first | done | exact rfl)))); (simp only [rel.put_lit, List.set_cons_succ, List.set_cons_zero]))
    (apply rel.walk_val; (focus (intro wq hq hf; go_wp2; refine ⟨hq, Below.refl _ _, ?_, rfl⟩; (show rel.slot _ _ = _; simp only [rel.slot_lit, List.getD_cons_succ, List.getD_cons_zero]; (first | done | exact rfl)))); (simp only [rel.put_lit, List.set_cons_succ, List.set_cons_zero]))
    (apply rel.walk_val; (focus (intro wq hq hf; go_wp2; refine ⟨hq, Below.refl _ _, ?_, rfl⟩; (show rel.slot _ _ = _; simp only [rel.slot_lit, List.getD_cons_succ, List.getD_cons_zero]; (first | done | exact rfl)))); (simp only [rel.put_lit, List.set_cons_succ, List.set_cons_zero]))
    ((apply rel.walk_val; (focus (intro wq hq hf; (have d0 := (hq.cell (p := ⟨b, off + k, none⟩) hb).trans cx); go_wp2; refine ⟨hq, Below.refl _ _, ?_, rfl⟩; (show rel.slot _ _ = _; simp only [rel.slot_lit, List.getD_cons_succ, List.getD_cons_zero]; (first | done | exact rfl)))); (simp only [rel.put_lit, List.set_cons_succ, List.set_cons_zero])))
    (apply rel.walk_val; (focus (intro wq hq hf; go_wp2; refine ⟨hq, Below.refl _ _, ?_, rfl⟩; (show rel.slot _ _ = _; simp only [rel.slot_lit, List.getD_cons_succ, List.getD_cons_zero]; (first | done | exact rfl)))); (simp only [rel.put_lit, List.set_cons_succ, List.set_cons_zero]))
    (apply rel.walk_val; (focus (intro wq hq hf; go_wp2; refine ⟨hq, Below.refl _ _, ?_, rfl⟩; (show rel.slot _ _ = _; simp only [rel.slot_lit, List.getD_cons_succ, List.getD_cons_zero]; (first | done | exact rfl)))); (simp only [rel.put_lit, List.set_cons_succ, List.set_cons_zero]))
    (apply rel.walk_val; (focus (intro wq hq hf; go_wp2; refine ⟨hq, Below.refl _ _, ?_, rfl⟩; (show rel.slot _ _ = _; simp only [rel.slot_lit, List.getD_cons_succ, List.getD_cons_zero]; (first | done | exact rfl)))); (simp only [rel.put_lit, List.set_cons_succ, List.set_cons_zero]))
    (apply rel.walk_val; (focus (intro wq hq hf; go_wp2; refine ⟨hq, Below.refl _ _, ?_, rfl⟩; (show rel.slot _ _ = _; simp only [rel.slot_lit, List.getD_cons_succ, List.getD_cons_zero]; (first | done | exact rfl)))); (simp only [rel.put_lit, List.set_cons_succ, List.set_cons_zero]))
    (apply rel.walk_rel (fun u w' => sch.IsG w' u (GT)) ⟨_, rfl⟩ (fun u w1 w2 h1 h2 => h2.on h1); (focus (intro wq hq hf; go_wp2_with (go_at_call 50; with_reducible refine (s1 _ hq).mono ?_; rintro e w'' ⟨⟨u, rfl, hu⟩, hb⟩); refine ⟨hq.trans (hb.mono hq.size), hb, ?_, rfl⟩; (show sch.IsG _ (rel.slot _ _) _; simp only [rel.slot_lit, List.getD_cons_succ, List.getD_cons_zero]; exact hu))); (intro u wu _ hu; obtain ⟨pu, t_pu, rfl, -⟩ := hu; (simp only [rel.put_lit, List.set_cons_succ, List.set_cons_zero])))
    (apply rel.walk_val; (focus (intro wq hq hf; go_wp2; refine ⟨hq, Below.refl _ _, ?_, rfl⟩; (show rel.slot _ _ = _; simp only [rel.slot_lit, List.getD_cons_succ, List.getD_cons_zero]; (first | done | exact rfl)))); (simp only [rel.put_lit, List.set_cons_succ, List.set_cons_zero]))
    (apply rel.walk_val; (focus (intro wq hq hf; go_wp2; refine ⟨hq, Below.refl _ _, ?_, rfl⟩; (show rel.slot _ _ = _; simp only [rel.slot_lit, List.getD_cons_succ, List.getD_cons_zero]; (first | done | exact rfl)))); (simp only [rel.put_lit, List.set_cons_succ, List.set_cons_zero]))
    (apply rel.walk_val; (focus (intro wq hq hf; go_wp2; refine ⟨hq, Below.refl _ _, ?_, rfl⟩; (show rel.slot _ _ = _; simp only [rel.slot_lit, List.getD_cons_succ, List.getD_cons_zero]; (first | done | exact rfl)))); (simp only [rel.put_lit, List.set_cons_succ, List.set_cons_zero]))
    (apply rel.walk_val; (focus (intro wq hq hf; go_wp2; refine ⟨hq, Below.refl _ _, ?_, rfl⟩; (show rel.slot _ _ = _; simp only [rel.slot_lit, List.getD_cons_succ, List.getD_cons_zero]; (first | done | exact rfl)))); (simp only [rel.put_lit, List.set_cons_succ, List.set_cons_zero]))
    (apply rel.walk_val; (focus (intro wq hq hf; go_wp2; refine ⟨hq, Below.refl _ _, ?_, rfl⟩; (show rel.slot _ _ = _; simp only [rel.slot_lit, List.getD_cons_succ, List.getD_cons_zero]; (first | done | exact rfl)))); (simp only [rel.put_lit, List.set_cons_succ, List.set_cons_zero]))
    (apply rel.walk_rel (fun u w' => sch.IsG w' u (GD)) ⟨_, rfl⟩ (fun u w1 w2 h1 h2 => h2.on h1); (focus (intro wq hq hf; go_wp2_with (go_at_call 50; with_reducible refine (s2 _ hq).mono ?_; rintro e w'' ⟨⟨u, rfl, hu⟩, hb⟩); refine ⟨hq.trans (hb.mono hq.size), hb, ?_, rfl⟩; (show sch.IsG _ (rel.slot _ _) _; simp only [rel.slot_lit, List.getD_cons_succ, List.getD_cons_zero]; exact hu))); (intro u wu _ hu; obtain ⟨pt, t_pt, rfl, -⟩ := hu; (simp only [rel.put_lit, List.set_cons_succ, List.set_cons_zero])))
    (apply rel.walk_rel (fun u w' => sch.IsG w' u (GL)) ⟨_, rfl⟩ (fun u w1 w2 h1 h2 => h2.on h1); (focus (intro wq hq hf; go_wp2_with (go_at_call 51; with_reducible refine (s3 _ _ _ (hf.get 1 rfl rfl) (hf.get 0 rfl rfl)).mono ?_; rintro e w'' ⟨⟨u, rfl, hu⟩, hb⟩); refine ⟨hq.trans (hb.mono hq.size), hb, ?_, rfl⟩; (show sch.IsG _ (rel.slot _ _) _; simp only [rel.slot_lit, List.getD_cons_succ, List.getD_cons_zero]; exact hu))); (intro u wu _ hu; obtain ⟨pz, t_pz, rfl, -⟩ := hu; (simp only [rel.put_lit, List.set_cons_succ, List.set_cons_zero])))
    refine rel.walk_nil ?_
    intro w9 K9 hF
    have hu : IsG w9 (.pointer pz) GL := hF _ (List.mem_cons_self ..)
    clear hF
    simp only [List.drop_succ_cons, List.drop_zero]
    go_wp2
    go_ret
    exact ⟨⟨_, rfl, hu⟩, K9⟩

/-- a set of these numbers, of whose tree G holds, its trees below block B -/
def IsSetG (G : Tr → Prop) (w : World) (B : Nat) (v : Value) (K : List Int) : Prop := ∃ p t, v = rv p K.length ∧ Nod B w t p ∧ G t ∧ keys t = K ∧ Asc K ∧ ∀ x ∈ K, (Lit.int .i64 x).wf = true
def Any (_ : Tr) : Prop := True
abbrev IsSet := IsSetG Any

section
variable {G G' : Tr → Prop} {w w' : World} {B B' : Nat} {v : Value} {l : List Int}
theorem IsSetG.below (h : IsSetG G w B v l) (hb : Below B w w') : IsSetG G w' B v l := by
  obtain ⟨p, r, hv, hc, hw⟩ := h
  exact ⟨p, r, hv, hc.below hb, hw⟩
theorem IsSetG.keep (h : IsSetG G w B v l) (hb : Keep w w') : IsSetG G w' B v l := by
  obtain ⟨p, r, hv, hc, hw⟩ := h
  exact ⟨p, r, hv, hc.keep hb, hw⟩
theorem IsSetG.mono (h : IsSetG G w B v l) (hB : B ≤ B') : IsSetG G w B' v l := by
  obtain ⟨p, r, hv, hc, hw⟩ := h
  exact ⟨p, r, hv, hc.mono hB, hw⟩
theorem IsSetG.on (h : IsSetG G w w.heap.size v l) (hb : Below w.heap.size w w') : IsSetG G w' w'.heap.size v l := (h.below hb).mono hb.size
theorem IsSetG.wf (h : IsSetG G w B v l) : ∀ x ∈ l, (Lit.int .i64 x).wf = true := by obtain ⟨_, _, _, _, _, _, _, hw⟩ := h; exact hw
theorem IsSetG.asc (h : IsSetG G w B v l) : Asc l := by obtain ⟨_, _, _, _, _, _, ha, _⟩ := h; exact ha
theorem IsSetG.imp (h : IsSetG G w B v l) (hG : ∀ t, G t → G' t) : IsSetG G' w B v l := by
  obtain ⟨p, r, hv, hc, hg, hw⟩ := h
  exact ⟨p, r, hv, hc, hG r hg, hw⟩
theorem IsSetG.any (h : IsSetG G w B v l) : IsSet w B v l := h.imp fun _ _ => trivial
theorem IsSet.nil (w : World) (B : Nat) : IsSet w B (rv none 0) [] := ⟨none, .nil, rfl, rfl, trivial, rfl, Asc.nil, by simp⟩
theorem IsSetG.val (h : IsSetG G w B v l) : ∃ p, v = rv p l.length := by obtain ⟨p, _, hv, _⟩ := h; exact ⟨p, hv⟩
theorem IsSetG.g {p : Option Addr} {n : Int} (h : IsSetG G w w.heap.size (.agg #[.pointer p, .int .i64 n]) l) : IsG w (.pointer p) (fun t => G t ∧ keys t = l) := by
  obtain ⟨q, t, hv, hn, hi, hk, -⟩ := h
  simp only [rv, Value.agg.injEq, Array.mk.injEq, List.cons.injEq, Value.pointer.injEq] at hv
  obtain ⟨rfl, -⟩ := hv
  exact ⟨p, t, rfl, hn, hi, hk⟩
end
theorem isSet_of {w : World} {p : Option Addr} {G G' : Tr → Prop} {K : List Int} (h : IsG w (.pointer p) G) (hG : ∀ t, G t → G' t ∧ keys t = K) (ha : Asc K) (hw : ∀ x ∈ K, (Lit.int .i64 x).wf = true) : IsSetG G' w w.heap.size (rv p K.length) K := by
  obtain ⟨q, t, hu, hn, hi⟩ := h
  cases hu
  exact ⟨p, t, rfl, hn, (hG t hi).1, (hG t hi).2, ha, hw⟩

/-- a set goes into a variable of the call's own -/
theorem stored {G : Tr → Prop} {w W : World} {g : Nat} {a b : Value} {p : Option Addr} {l : List Int} {k : Int} (hk : k = (l.length : Int)) (hR : hp.Blk W g tyH [a, b]) (hg : w.heap.size ≤ g) (hb : Below w.heap.size w W) (h : IsSetG G W W.heap.size (rv p l.length) l) :
    ∃ W', (W.setCell ⟨g, 0, none⟩ (.pointer p)).setCell ⟨g, 1, none⟩ (.int .i64 k) = W' ∧ hp.Blk W' g tyH [.pointer p, .int .i64 l.length] ∧ IsSetG G W' W'.heap.size (rv p l.length) l ∧ Below w.heap.size w W' ∧ Keep W W' ∧ W'.heap.size = W.heap.size ∧ (∀ b t cs, b ≠ g → hp.Blk W b t cs → hp.Blk W' b t cs) := by
  subst hk
  have hK := (Keep.of_set (o := 0) hR (by decide) (.pointer p)).trans (Keep.of_set (o := 1) (hR.set 0 (.pointer p)) (by decide) (.int .i64 l.length))
  exact ⟨_, rfl, hR.set2 _ _, (h.keep hK).mono (by simp), (hb.setCell (by simpa using hg) _).setCell (by simpa using hg) _, hK, by simp, fun b t cs hne hk => (hk.other hne _).other hne _⟩

set_option maxHeartbeats 4000000 in
theorem len_any (v : Value) (l : List Int) (w : World) (hv : IsSet w w.heap.size v l) :
    Calls Try.prog 17 #[v] w fun e w' => e = .returned (.int .i64 l.length) ∧ Below w.heap.size w w' := by
  obtain ⟨p, rfl⟩ := hv.val
  clear hv
  go_enter Try.func17, Try.ntmps17
  go_wp2_with fail
  go_ret
  refine ⟨rfl, ?_⟩
  ((repeat' (first | with_reducible exact Below.refl _ _ | with_reducible apply Below.setCell | with_reducible apply below_drewN | with_reducible apply Below.drew | with_reducible apply Below.alloc | with_reducible refine Below.trans ?_ (Below.mono (by assumption) ?_))) <;> (first | (simp; done) | (simp; omega) | omega))

set_option maxHeartbeats 4000000 in
theorem set_has {v : Value} {l : List Int} {x : Int} {w : World} {b : Bool} (hv : IsSet w w.heap.size v l) (hb : b = decide (x ∈ l)) :
    Calls Try.prog 18 #[v, .int .i64 x] w fun e w' => e = .returned (.bool b) ∧ Below w.heap.size w w' := by
  obtain ⟨p, t, rfl, hn, -, hk, ha, -⟩ := hv
  have hcl := fun W (hW : Below w.heap.size w W) => has_raw (x := x) (b := b) (hn.grow hW hW.size) (by rw [hk]; exact ha) (by rw [hk]; exact hb)
  clear hn hk ha hb
  go_enter Try.func18, Try.ntmps18
  go_wp2_with (go_at_call 45; with_reducible refine (hcl _ ((Below.refl _ _).alloc (Nat.le_refl _) _)).mono ?_; clear hcl; rintro e w1 ⟨rfl, hb⟩)
  go_ret
  exact ⟨rfl, Below.trans ((Below.refl _ _).alloc (Nat.le_refl _) _) (hb.mono (by simp))⟩

set_option maxHeartbeats 8000000 in
theorem find_any {v : Value} {l : List Int} {x : Int} {w : World} (hv : IsSet w w.heap.size v l) (hbd : l.length ≤ 17592186044416) :
    Calls Try.prog 23 #[v, .int .i64 x] w fun e w' => (∃ q, e = .returned (.tuple #[rv q l.length, .bool (decide (x ∈ l))]) ∧ IsSetG (Near x l) w' w'.heap.size (rv q l.length) l) ∧ Below w.heap.size w w' := by
  obtain ⟨p, t, rfl, hn, -, hk, ha, hw⟩ := hv
  obtain ⟨Wa, hW0⟩ : ∃ Wa, ((w.alloc (.cells #[.pointer p, .int .i64 l.length] tyH)).alloc (.cells #[.pointer none, .int .i64 0] tyH)) = Wa := ⟨_, rfl⟩
  have hR : hp.Blk Wa (w.heap.size + 1) tyH [.pointer none, .int .i64 0] := by
    rw [← hW0]
    exact hp.Blk.newAt (by simp)
  have hA : hp.Blk Wa w.heap.size tyH [.pointer p, .int .i64 l.length] := by
    rw [← hW0]
    exact (hp.Blk.newAt (by simp)).alloc _
  have hb0 : Below w.heap.size w Wa := by
    rw [← hW0]
    ((repeat' (first | with_reducible exact Below.refl _ _ | with_reducible apply Below.setCell | with_reducible apply below_drewN | with_reducible apply Below.drew | with_reducible apply Below.alloc | with_reducible refine Below.trans ?_ (Below.mono (by assumption) ?_))) <;> (first | (simp; done) | (simp; omega) | omega))
  have hcl := splayed_any (x := x) (hn.grow hb0 hb0.size) (by rw [hk]; exact ha) (by rw [hk]; exact hbd)
  rw [hk] at hcl
  have hdone : Hid (∀ W q, IsG W (.pointer q) (Near x l) → IsSetG (Near x l) W W.heap.size (rv q l.length) l) := Lib.hid fun W q h => isSet_of h (fun t ht => ⟨ht, ht.1⟩) ha hw
  obtain ⟨c0, c1⟩ := hA.cells2
  obtain ⟨N, hN⟩ : ∃ N : Int, (l.length : Int) = N := ⟨_, rfl⟩
  rw [hN] at c1 hA hW0
  rw [show rv p l.length = .agg #[.pointer p, .int .i64 N] by rw [← hN]]
  replace hN := Lib.hid hN.symm
  obtain ⟨b, hbx⟩ : ∃ b, decide (x ∈ l) = b := ⟨_, rfl⟩
  rw [hbx]
  replace hbx := Lib.hid hbx
  clear hn hk ha hw hbd
  go_enter Try.func23, Try.ntmps23
  go_wp2_with (go_at_call 52; (with_reducible refine hcl.mono ?_); clear hcl; rintro e W2 ⟨⟨u, rfl, hu⟩, hb1⟩; replace hR := hR.on hb1; replace hA := hA.on hb1; have K := hb0.trans (hb1.mono hb0.size); clear c0 c1 hb1; obtain ⟨c0, c1⟩ := hA.cells2; obtain ⟨d0, d1⟩ := hR.cells2; have f0 := hR.free 0; have f1 := hR.free 1; have hu2 := hu; (obtain ⟨q, s, rfl, hns, hNr⟩ := hu2); have hQ0 := hdone.out _ _ hu)
  obtain ⟨W9, hW9, hS, hQ, hB, -, -, ho⟩ := stored hN.out hR (by omega) K hQ0
  obtain ⟨g0, g1⟩ := hS.cells2
  replace hQ := hQ.on (Below.refl _ _).drew
  replace hB := hB.drew
  clear hdone hu hQ0
  rcases s with _ | ⟨y, m, sl, sr⟩
  · obtain rfl : q = none := hns
    have hl := hNr.empty
    obtain rfl : b = false := by rw [← hbx.out, hl]; simp
    clear hNr hl hbx
    go_wp2_with fail
    go_big_region
    go_wp2_with fail
    refine bodyPost_ret (v := .tuple #[rv none l.length, .bool false]) (by simp [results, Try.results23, go_sem, g0, g1]) rfl ⟨⟨_, rfl, hQ⟩, hB⟩
  · obtain ⟨i, ci, di, rfl, hi, hvi, -⟩ := hns
    have i0 := hvi.cell 0
    have j0 := (ho _ _ _ (blk_ne hvi hR (by decide)) hvi).cell 0
    simp only [List.getElem?_cons_zero] at i0 j0
    have hhas := hNr.has
    by_cases hyx : y = x
    · obtain rfl : b = true := by rw [← hbx.out]; simpa using hhas.1 hyx
      clear hhas hNr hvi hbx
      go_wp2_with fail
      go_big_region
      go_wp2_with fail
      refine bodyPost_ret (v := .tuple #[rv _ l.length, .bool true]) (by simp [results, Try.results23, go_sem, g0, g1, hyx]) rfl ⟨⟨_, rfl, hQ⟩, hB⟩
    · obtain rfl : b = false := by rw [← hbx.out]; simpa using fun h => hyx (hhas.2 h)
      clear hhas hNr hvi hbx
      go_wp2_with fail
      go_big_region
      go_wp2_with fail
      refine bodyPost_ret (v := .tuple #[rv _ l.length, .bool false]) (by simp [results, Try.results23, go_sem, g0, g1, hyx]) rfl ⟨⟨_, rfl, hQ⟩, hB⟩
end Go.Proofs.Ytlaflhnnddfkkaa.spl
