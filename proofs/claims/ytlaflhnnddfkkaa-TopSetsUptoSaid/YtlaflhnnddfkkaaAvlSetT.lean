/- Package avl: a tree of a list; sets. -/
import Derived.Test.YtlaflhnnddfkkaaAvlOps
import Derived.Test.YtlaflhnnddfkkaaSchDist
import Derived.Test.YtlaflhnnddfkkaaInts
namespace Go.Proofs.Ytlaflhnnddfkkaa.avl
open Go Go.RowKit
open Go.Proofs.Ytlaflhnnddfkkaa.sch

abbrev tyH : TypeId := 49

/-- as high as so many numbers' bits -/
def Lg (n h : Nat) : Prop := n < 2 ^ h ∧ 2 ^ h ≤ 2 * n + 1
theorem lg_zero : Lg 0 0 := ⟨by decide, by decide⟩
theorem lg_halves {a b ha hb : Nat} (h1 : Lg a ha) (h2 : Lg b hb) (hab : b ≤ a) (hba : a ≤ b + 1) : hb ≤ ha ∧ ha ≤ hb + 1 ∧ Lg (a + b + 1) (ha + 1) := by
  obtain ⟨p1, p2⟩ := h1
  obtain ⟨q1, q2⟩ := h2
  have e1 : hb < ha + 1 := by
    refine (Nat.pow_lt_pow_iff_right (a := 2) (by omega)).1 ?_
    rw [Nat.pow_succ]; omega
  have e2 : ha ≤ hb + 1 := by
    refine Classical.byContradiction fun hc => ?_
    have h3 : 2 ^ (hb + 2) ≤ 2 ^ ha := Nat.pow_le_pow_right (by omega) (by omega)
    have h4 : 1 ≤ 2 ^ hb := Nat.one_le_two_pow
    rw [Nat.pow_succ, Nat.pow_succ] at h3
    omega
  refine ⟨by omega, e2, ?_, ?_⟩
  · rw [Nat.pow_succ]; omega
  · rw [Nat.pow_succ]
    rcases Nat.eq_zero_or_pos ha with rfl | hp
    · simp; omega
    · obtain ⟨k, rfl⟩ : ∃ k, ha = k + 1 := ⟨ha - 1, by omega⟩
      rw [Nat.pow_succ] at p2 ⊢
      omega

/-- a tree of this list -/
def Made (l : List Int) (t : Tr) : Prop := Avl t ∧ keys t = l ∧ Lg l.length (hgt t)

theorem over_made {x : Int} {a b : List Int} {p q : Option Addr} {w : World} (ha : IsG w (.pointer p) (Made a)) (hb : IsG w (.pointer q) (Made b)) (hab : b.length ≤ a.length) (hba : a.length ≤ b.length + 1) (hs : a.length < 1152921504606846976) :
    Calls Try.prog 72 #[.int .i64 x, .pointer p, .pointer q] w fun e w' => (∃ u, e = .returned u ∧ IsG w' u (Made (a ++ x :: b))) ∧ Below w.heap.size w w' := by
  obtain ⟨_, s, he, hn, is, hk, hl⟩ := ha
  obtain ⟨_, t, he2, hn2, it, hk2, hl2⟩ := hb
  cases he
  cases he2
  have q1 := hgt_le s
  have q2 := hgt_le t
  rw [hk] at q1
  rw [hk2] at q2
  obtain ⟨h1, h2, h3⟩ := lg_halves hl hl2 hab hba
  refine (over_any hn.t hn2.t is it (by omega)).mono ?_
  rintro e w' ⟨⟨u, rfl, h⟩, hb⟩
  refine ⟨⟨u, rfl, h.g ⟨mkn_avl is it h2 (by omega), by rw [keys_mkn, hk, hk2], ?_⟩⟩, hb⟩
  rw [hgt_mkn, Nat.max_eq_left h1, List.length_append, List.length_cons]
  exact h3

attribute [-go_sem] sliced in
set_option maxHeartbeats 8000000 in
theorem of_tree : ∀ (N : Nat) (l : List Int) (v : Value) (w : World), l.length ≤ N → l.length < 1152921504606846976 → hp.IsInts w w.heap.size v l →
    Calls Try.prog 50 #[v, fover] w fun e w' => (∃ u, e = .returned u ∧ IsG w' u (Made l)) ∧ Below w.heap.size w w' := by
  intro N
  have hnil : ∀ w, IsG w (.pointer none) (Made []) := fun w => ⟨none, .nil, rfl, rfl, trivial, rfl, lg_zero⟩
  induction N with
  | zero =>
    intro l v w hN hbd hv
    obtain rfl : l = [] := List.eq_nil_of_length_eq_zero (by omega)
    obtain ⟨ad, cap, rfl, -⟩ := hv
    go_enter Try.func50, Try.ntmps50
    go_wp2_with fail
    go_ret
    exact ⟨⟨_, rfl, hnil _⟩, Below.refl _ _⟩
  | succ N ih =>
    intro l v w hN hbd hv
    by_cases h0 : l = []
    · subst h0
      obtain ⟨ad, cap, rfl, -⟩ := hv
      clear ih hN
      go_enter Try.func50, Try.ntmps50
      go_wp2_with fail
      go_ret
      exact ⟨⟨_, rfl, hnil _⟩, Below.refl _ _⟩
    have h1 : 1 ≤ l.length := by rcases l with _ | ⟨x, l⟩ <;> simp at h0 ⊢
    obtain ⟨n, hn⟩ : ∃ n, l.length = n := ⟨_, rfl⟩
    obtain ⟨k, hk⟩ : ∃ k, n / 2 = k := ⟨_, rfl⟩
    have hv' := hv
    obtain ⟨ad, cap, rfl, hcap, -, -, hc⟩ := hv'
    obtain ⟨b, off, rfl, hb, hcell⟩ := hc (by omega)
    have cx := hcell k (by omega)
    have s1 := fun W (hW : Below w.heap.size w W) => ih (l.take k) _ W (by simp; omega) (by simp; omega) (((hv.below hW).mono hW.size).sliced (i := 0) (j := k) (Nat.zero_le _) (by omega))
    have s2 := fun W (hW : Below w.heap.size w W) => ih (l.drop (k + 1)) _ W (by simp; omega) (by simp; omega) (((hv.below hW).mono hW.size).from (i := k + 1) (by omega))
    have s3 := fun W p q (hp : IsG W (.pointer p) (Made (l.take k))) (hq : IsG W (.pointer q) (Made (l.drop (k + 1)))) => over_made (x := l.getD k 0) hp hq (by simp; omega) (by simp; omega) (by simp; omega)
    have hl : l.take k ++ l.getD k 0 :: l.drop (k + 1) = l := by
      have := List.take_append_drop k l
      rw [List.drop_eq_getElem_cons (by omega)] at this
      rw [show l.getD k 0 = l[k] by simp [show k < l.length by omega]]
      exact this
    rw [hl] at s3
    rw [hn] at s2 h1 hcap ⊢
    generalize hT : l.take k = T at *
    generalize hD : l.drop (k + 1) = D at *
    generalize l.getD k 0 = x at *
    generalize Made T = GT at *
    generalize Made D = GD at *
    generalize Made l = GL at *
    have hq : ((n : Int)).tdiv 2 = (k : Int) := by rw [Int.tdiv_eq_ediv_of_nonneg (by omega)]; omega
    have hkn : k + 1 ≤ n := by omega
    have hn2 : n < 1152921504606846976 := by omega
    have K := Below.refl w.heap.size w
    clear ih hN hbd hv hn hk hnil hT hD hl h0 hc hcell
    go_enter Try.func50, Try.ntmps50
    go_wp2_with fail
    apply rel.region_tail (C := fun w' => Below w.heap.size w w') (X := fun w w' => Below w.heap.size w w') 17 (by kernel_rfl) (by kernel_rfl) (by kernel_rfl) (by kernel_rfl) (K.drew)
    (apply rel.walk_val; (focus (intro wq hq hf; go_wp2; refine ⟨hq, Below.refl _ _, ?_, rfl⟩; (show rel.slot _ _ = _; simp only [rel.slot_lit, List.getD_cons_succ, List.getD_cons_zero]; (first | done | exact rfl)))); (simp only [rel.put_lit, List.set_cons_succ, List.set_cons_zero]))
    (apply rel.walk_val; (focus (intro wq hq hf; go_wp2; refine ⟨hq, Below.refl _ _, ?_, rfl⟩; (show rel.slot _ _ = _; simp only [rel.slot_lit, List.getD_cons_succ, List.getD_cons_zero]; (first | done | exact rfl)))); (simp only [rel.put_lit, List.set_cons_succ, List.set_cons_zero]))
    (apply rel.walk_val; (focus (intro wq hq hf; go_wp2; refine ⟨hq, Below.refl _ _, ?_, rfl⟩; (show rel.slot _ _ = _; simp only [rel.slot_lit, List.getD_cons_succ, List.getD_cons_zero]; (first | done | exact rfl)))); (simp only [rel.put_lit, List.set_cons_succ, List.set_cons_zero]))
    (apply rel.walk_val; (focus (intro wq hq hf; go_wp2; refine ⟨hq, Below.refl _ _, ?_, rfl⟩; (show rel.slot _ _ = _; simp only [rel.slot_lit, List.getD_cons_succ, List.getD_cons_zero]; (first | done | exact rfl)))); (simp only [rel.put_lit, List.set_cons_succ, List.set_cons_zero]))
    ((apply rel.walk_val; (focus (intro wq hq hf; (have d0 := (hq.cell (p := ⟨b, off + k, none⟩) hb).trans cx); go_wp2; refine ⟨hq, Below.refl _ _, ?_, rfl⟩; (show rel.slot _ _ = _; simp only [rel.slot_lit, List.getD_cons_succ, List.getD_cons_zero]; (first | done | exact rfl)))); (simp only [rel.put_lit, List.set_cons_succ, List.set_cons_zero])))
    (apply rel.walk_val; (focus (intro wq hq hf; go_wp2; refine ⟨hq, Below.refl _ _, ?_, rfl⟩; (show rel.slot _ _ = _; simp only [rel.slot_lit, List.getD_cons_succ, List.getD_cons_zero]; (first | done | exact rfl)))); (simp only [rel.put_lit, List.set_cons_succ, List.set_cons_zero]))
    (apply rel.walk_val; (focus (intro wq hq hf; go_wp2; refine ⟨hq, Below.refl _ _, ?_, rfl⟩; (show rel.slot _ _ = _; simp only [rel.slot_lit, List.getD_cons_succ, List.getD_cons_zero]; (first | done | exact rfl)))); (simp only [rel.put_lit, List.set_cons_succ, List.set_cons_zero]))
    (apply rel.walk_val; (focus (intro wq hq hf; go_wp2; refine ⟨hq, Below.refl _ _, ?_, rfl⟩; (show rel.slot _ _ = _; simp only [rel.slot_lit, List.getD_cons_succ, List.getD_cons_zero]; (first | done | exact rfl)))); (simp only [rel.put_lit, List.set_cons_succ, List.set_cons_zero]))
    (apply rel.walk_val; (focus (intro wq hq hf; go_wp2; refine ⟨hq, Below.refl _ _, ?_, rfl⟩; (show rel.slot _ _ = _; simp only [rel.slot_lit, List.getD_cons_succ, List.getD_cons_zero]; (first | done | exact rfl)))); (simp only [rel.put_lit, List.set_cons_succ, List.set_cons_zero]))
    (apply rel.walk_rel (fun u w' => sch.IsG w' u (GT)) ⟨_, rfl⟩ (fun u w1 w2 h1 h2 => h2.on h1); (focus (intro wq hq hf; go_wp2_with (go_at_call 50; with_reducible refine (s1 _ hq).mono ?_; rintro e w'' ⟨⟨u, rfl, hu⟩, hb⟩); refine ⟨hq.trans (hb.mono hq.size), hb, ?_, rfl⟩; (show sch.IsG _ (rel.slot _ _) _; simp only [rel.slot_lit, List.getD_cons_succ, List.getD_cons_zero]; exact hu))); (intro u wu _ hu; obtain ⟨pu, t_pu, rfl, -⟩ := hu; (simp only [rel.put_lit, List.set_cons_succ, List.set_cons_zero])))
    (apply rel.walk_val; (focus (intro wq hq hf; go_wp2; refine ⟨hq, Below.refl _ _, ?_, rfl⟩; (show rel.slot _ _ = _; simp only [rel.slot_lit, List.getD_cons_succ, List.getD_cons_zero]; (first | done | exact rfl)))); (simp only [rel.put_lit, List.set_cons_succ, List.set_cons_zero]))
    (apply rel.walk_val; (focus (intro wq hq hf; go_wp2; refine ⟨hq, Below.refl _ _, ?_, rfl⟩; (show rel.slot _ _ = _; simp only [rel.slot_lit, List.getD_cons_succ, List.getD_cons_zero]; (first | done | exact rfl)))); (simp only [rel.put_lit, List.set_cons_succ, List.set_cons_zero]))
    (apply rel.walk_val; (focus (intro wq hq hf; go_wp2; refine ⟨hq, Below.refl _ _, ?_, rfl⟩; (show rel.slot _ _ = _; simp only [rel.slot_lit, List.getD_cons_succ, List.getD_cons_zero]; (first | done | exact rfl)))); (simp only [rel.put_lit, List.set_cons_succ, List.set_cons_zero]))
    (apply rel.walk_val; (focus (intro wq hq hf; go_wp2; refine ⟨hq, Below.refl _ _, ?_, rfl⟩; (show rel.slot _ _ = _; simp only [rel.slot_lit, List.getD_cons_succ, List.getD_cons_zero]; (first | done | exact rfl)))); (simp only [rel.put_lit, List.set_cons_succ, List.set_cons_zero]))
    (apply rel.walk_val; (focus (intro wq hq hf; go_wp2; refine ⟨hq, Below.refl _ _, ?_, rfl⟩; (show rel.slot _ _ = _; simp only [rel.slot_lit, List.getD_cons_succ, List.getD_cons_zero]; (first | done | exact rfl)))); (simp only [rel.put_lit, List.set_cons_succ, List.set_cons_zero]))
    (apply rel.walk_rel (fun u w' => sch.IsG w' u (GD)) ⟨_, rfl⟩ (fun u w1 w2 h1 h2 => h2.on h1); (focus (intro wq hq hf; go_wp2_with (go_at_call 50; with_reducible refine (s2 _ hq).mono ?_; rintro e w'' ⟨⟨u, rfl, hu⟩, hb⟩); refine ⟨hq.trans (hb.mono hq.size), hb, ?_, rfl⟩; (show sch.IsG _ (rel.slot _ _) _; simp only [rel.slot_lit, List.getD_cons_succ, List.getD_cons_zero]; exact hu))); (intro u wu _ hu; obtain ⟨pt, t_pt, rfl, -⟩ := hu; (simp only [rel.put_lit, List.set_cons_succ, List.set_cons_zero])))
    (apply rel.walk_rel (fun u w' => sch.IsG w' u (GL)) ⟨_, rfl⟩ (fun u w1 w2 h1 h2 => h2.on h1); (focus (intro wq hq hf; go_wp2_with (go_at_call 72; with_reducible refine (s3 _ _ _ (hf.get 1 rfl rfl) (hf.get 0 rfl rfl)).mono ?_; rintro e w'' ⟨⟨u, rfl, hu⟩, hb⟩); refine ⟨hq.trans (hb.mono hq.size), hb, ?_, rfl⟩; (show sch.IsG _ (rel.slot _ _) _; simp only [rel.slot_lit, List.getD_cons_succ, List.getD_cons_zero]; exact hu))); (intro u wu _ hu; obtain ⟨pz, t_pz, rfl, -⟩ := hu; (simp only [rel.put_lit, List.set_cons_succ, List.set_cons_zero])))
    refine rel.walk_nil ?_
    intro w9 K9 hF
    have hu : IsG w9 (.pointer pz) GL := hF _ (List.mem_cons_self ..)
    clear hF
    simp only [List.drop_succ_cons, List.drop_zero]
    go_wp2
    go_ret
    exact ⟨⟨_, rfl, hu⟩, K9⟩

/-- a set of these numbers, its trees below block B -/
def IsSet (w : World) (B : Nat) (v : Value) (K : List Int) : Prop := ∃ p t, v = rv p K.length ∧ Nod B w t p ∧ Avl t ∧ keys t = K ∧ Asc K ∧ ∀ x ∈ K, (Lit.int .i64 x).wf = true

section
variable {w w' : World} {B B' : Nat} {v : Value} {l : List Int}
theorem IsSet.below (h : IsSet w B v l) (hb : Below B w w') : IsSet w' B v l := by
  obtain ⟨p, r, hv, hc, hw⟩ := h
  exact ⟨p, r, hv, hc.below hb, hw⟩
theorem IsSet.keep (h : IsSet w B v l) (hb : Keep w w') : IsSet w' B v l := by
  obtain ⟨p, r, hv, hc, hw⟩ := h
  exact ⟨p, r, hv, hc.keep hb, hw⟩
theorem IsSet.mono (h : IsSet w B v l) (hB : B ≤ B') : IsSet w B' v l := by
  obtain ⟨p, r, hv, hc, hw⟩ := h
  exact ⟨p, r, hv, hc.mono hB, hw⟩
theorem IsSet.on (h : IsSet w w.heap.size v l) (hb : Below w.heap.size w w') : IsSet w' w'.heap.size v l := (h.below hb).mono hb.size
theorem IsSet.wf (h : IsSet w B v l) : ∀ x ∈ l, (Lit.int .i64 x).wf = true := by obtain ⟨_, _, _, _, _, _, _, hw⟩ := h; exact hw
theorem IsSet.asc (h : IsSet w B v l) : Asc l := by obtain ⟨_, _, _, _, _, _, ha, _⟩ := h; exact ha
theorem IsSet.nil (w : World) (B : Nat) : IsSet w B (rv none 0) [] := ⟨none, .nil, rfl, rfl, trivial, rfl, Asc.nil, by simp⟩
theorem IsSet.val (h : IsSet w B v l) : ∃ p, v = rv p l.length := by obtain ⟨p, _, hv, _⟩ := h; exact ⟨p, hv⟩
end
theorem isSet_of {w : World} {p : Option Addr} {K : List Int} {lo hi : Nat} (h : IsG w (.pointer p) (Good K lo hi)) (ha : Asc K) (hw : ∀ x ∈ K, (Lit.int .i64 x).wf = true) : IsSet w w.heap.size (rv p K.length) K := by
  obtain ⟨q, t, hu, hn, hi, hk, -, -⟩ := h
  cases hu
  exact ⟨p, t, rfl, hn, hi, hk, ha, hw⟩

/-- a set goes into a variable of the call's own -/
theorem stored {w W : World} {g : Nat} {a b : Value} {p : Option Addr} {l : List Int} {k : Int} (hk : k = (l.length : Int)) (hR : hp.Blk W g tyH [a, b]) (hg : w.heap.size ≤ g) (hb : Below w.heap.size w W) (h : IsSet W W.heap.size (rv p l.length) l) :
    ∃ W', (W.setCell ⟨g, 0, none⟩ (.pointer p)).setCell ⟨g, 1, none⟩ (.int .i64 k) = W' ∧ hp.Blk W' g tyH [.pointer p, .int .i64 l.length] ∧ IsSet W' W'.heap.size (rv p l.length) l ∧ Below w.heap.size w W' ∧ Keep W W' ∧ W'.heap.size = W.heap.size ∧ (∀ b t cs, b ≠ g → hp.Blk W b t cs → hp.Blk W' b t cs) := by
  subst hk
  have hK := (Keep.of_set (o := 0) hR (by decide) (.pointer p)).trans (Keep.of_set (o := 1) (hR.set 0 (.pointer p)) (by decide) (.int .i64 l.length))
  exact ⟨_, rfl, hR.set2 _ _, (h.keep hK).mono (by simp), (hb.setCell (by simpa using hg) _).setCell (by simpa using hg) _, hK, by simp, fun b t cs hne hk => (hk.other hne _).other hne _⟩

set_option maxHeartbeats 4000000 in
theorem set_has {v : Value} {l : List Int} {x : Int} {w : World} {b : Bool} (hv : IsSet w w.heap.size v l) (hb : b = decide (x ∈ l)) :
    Calls Try.prog 36 #[v, .int .i64 x] w fun e w' => e = .returned (.bool b) ∧ Below w.heap.size w w' := by
  obtain ⟨p, t, rfl, hn, -, hk, ha, -⟩ := hv
  have hcl := fun W (hW : Below w.heap.size w W) => has_raw (x := x) (b := b) (hn.grow hW hW.size) (by rw [hk]; exact ha) (by rw [hk]; exact hb)
  clear hn hk ha hb
  go_enter Try.func36, Try.ntmps36
  go_wp2_with (go_at_call 45; with_reducible refine (hcl _ ((Below.refl _ _).alloc (Nat.le_refl _) _)).mono ?_; clear hcl; rintro e w1 ⟨rfl, hb⟩)
  go_ret
  exact ⟨rfl, Below.trans ((Below.refl _ _).alloc (Nat.le_refl _) _) (hb.mono (by simp))⟩

set_option maxHeartbeats 8000000 in
theorem set_put {v : Value} {l : List Int} {x : Int} {w : World} (hv : IsSet w w.heap.size v l) (hx : (Lit.int .i64 x).wf = true) (hbd : l.length < 1152921504606846900) :
    Calls Try.prog 28 #[v, .int .i64 x] w fun e w' => (∃ q, e = .returned (rv q (ins x l).length) ∧ IsSet w' w'.heap.size (rv q (ins x l).length) (ins x l)) ∧ Below w.heap.size w w' := by
  have hv0 := hv
  obtain ⟨p, t, rfl, hn, hi, hk, ha, hw⟩ := hv
  obtain ⟨Wa, hW0⟩ : ∃ Wa, ((w.alloc (.cells #[.pointer p, .int .i64 l.length] tyH)).alloc (.cells #[.pointer none, .int .i64 0] tyH)) = Wa := ⟨_, rfl⟩
  have hR : hp.Blk Wa (w.heap.size + 1) tyH [.pointer none, .int .i64 0] := by
    rw [← hW0]
    exact hp.Blk.newAt (by simp)
  have hA : hp.Blk Wa w.heap.size tyH [.pointer p, .int .i64 l.length] := by
    rw [← hW0]
    exact (hp.Blk.newAt (by simp)).alloc _
  have hb0 : Below w.heap.size w Wa := by
    rw [← hW0]
    ((repeat' (first | with_reducible exact Below.refl _ _ | with_reducible apply Below.setCell | with_reducible apply below_drewN | with_reducible apply Below.drew | with_reducible apply Below.alloc | with_reducible refine Below.trans ?_ (Below.mono (by assumption) ?_))) <;> (first | (simp; done) | (simp; omega) | omega))
  have hhas := fun W (hW : Below w.heap.size w W) => set_has (x := x) (b := decide (x ∈ l)) (hv0.on hW) rfl
  have hv1 := hv0.on hb0
  by_cases hm : x ∈ l
  · have hsame : ins x l = l := ins_same ha hm
    rw [hsame]
    rw [show decide (x ∈ l) = true by simpa using hm] at hhas
    obtain ⟨c0, c1⟩ := hA.cells2
    obtain ⟨d0, d1⟩ := hR.cells2
    have f0 := hR.free 0
    have f1 := hR.free 1
    obtain ⟨N, hN⟩ : ∃ N : Int, (l.length : Int) = N := ⟨_, rfl⟩
    replace hv0 := Lib.hid hv0
    clear hn hi hk ha hw hbd hm hsame
    rw [hN] at c1 hA hW0
    simp only [rv, hN] at hhas
    rw [show rv p l.length = .agg #[.pointer p, .int .i64 N] by rw [← hN]]
    replace hN := Lib.hid hN
    have K := hb0
    go_enter Try.func28, Try.ntmps28
    go_wp2_with (go_at_call 36; with_reducible refine (hhas _ hb0).mono ?_; clear hhas; rintro e w1 ⟨rfl, hb1⟩; replace hA := hA.on hb1; replace hR := hR.on hb1; replace hv1 := hv1.on hb1; replace K := hb0.trans (hb1.mono hb0.size); clear c0 c1 d0 d1 f0 f1; obtain ⟨c0, c1⟩ := hA.cells2; obtain ⟨d0, d1⟩ := hR.cells2; have f0 := hR.free 0; have f1 := hR.free 1; clear hb1)
    obtain ⟨W9, hW9, hS, hQ, hB, -⟩ := stored (k := N) hN.out.symm hR (by omega) K hv1
    rw [hW9]
    obtain ⟨g0, g1⟩ := hS.cells2
    refine bodyPost_ret (v := rv p l.length) (by simp [results, Try.results28, go_sem, g0, g1]) rfl ⟨⟨_, rfl, hQ⟩, hB⟩
  · have hcl := fun W (hW : Below w.heap.size w W) => put_any (x := x) t p W (hn.grow hW hW.size) hi (by rw [hk]; exact ha) (by rw [hk]; exact hm) (by rw [hk]; omega)
    rw [hk] at hcl
    rw [show decide (x ∈ l) = false by simpa using hm] at hhas
    have hlen := ins_len ha hm
    have hwr : ((l.length : Int) + 1) = ((ins x l).length : Int) := by omega
    have hdone : Hid (∀ W q, IsG W (.pointer q) (Good (ins x l) (hgt t) (hgt t + 1)) → IsSet W W.heap.size (rv q (ins x l).length) (ins x l)) := Lib.hid fun W q h => isSet_of h (ins_asc x ha) (ins_wf hx hw)
    obtain ⟨M, hM⟩ : ∃ M, ins x l = M := ⟨_, rfl⟩
    rw [hM] at hwr hdone hcl hlen ⊢
    obtain ⟨N, hN⟩ : ∃ N : Int, (l.length : Int) = N := ⟨_, rfl⟩
    rw [hN] at hwr hA
    simp only [rv, hN] at hhas
    have hN2 : 0 ≤ N ∧ N < 1152921504606846900 := by omega
    skip
    replace hwr := Lib.hid hwr
    rw [hN] at hW0
    rw [show rv p l.length = .agg #[.pointer p, .int .i64 N] by rw [← hN]]
    replace hN := Lib.hid hN
    generalize hGL : Good M (hgt t) (hgt t + 1) = GL at *
    replace hGL := Lib.hid hGL
    obtain ⟨hN3, hN4⟩ := hN2
    replace hlen := Lib.hid hlen
    clear hn hi hk ha hw hbd hm hv0 hv1 hM
    have K := hb0
    obtain ⟨c0, c1⟩ := hA.cells2
    go_enter Try.func28, Try.ntmps28
    go_wp2_with (go_at_call 36; with_reducible refine (hhas _ hb0).mono ?_; clear hhas; rintro e W0 ⟨rfl, hb1⟩; replace hA := hA.on hb1; replace hR := hR.on hb1; replace K := hb0.trans (hb1.mono hb0.size); clear c0 c1 hb1 hb0 hW0)
    have hb0 := K
    apply rel.region_tail (C := fun w' => Below W0.heap.size W0 w') (X := fun w w' => Below w.heap.size w w') 7 (by kernel_rfl) (by kernel_rfl) (by kernel_rfl) (by kernel_rfl) ((Below.refl W0.heap.size W0).drew)
    (apply rel.walk_val; (focus (intro wq hq hf; go_wp2; refine ⟨hq, Below.refl _ _, ?_, rfl⟩; (show rel.slot _ _ = _; simp only [rel.slot_lit, List.getD_cons_succ, List.getD_cons_zero]; (first | done | exact rfl)))); (simp only [rel.put_lit, List.set_cons_succ, List.set_cons_zero]))
    ((apply rel.walk_val; (focus (intro wq hq hf; (obtain ⟨d0, d1⟩ := ((hA).below hq (hA).lt).cells2); go_wp2; refine ⟨hq, Below.refl _ _, ?_, rfl⟩; (show rel.slot _ _ = _; simp only [rel.slot_lit, List.getD_cons_succ, List.getD_cons_zero]; (first | done | exact rfl)))); (simp only [rel.put_lit, List.set_cons_succ, List.set_cons_zero])))
    (apply rel.walk_val; (focus (intro wq hq hf; go_wp2; refine ⟨hq, Below.refl _ _, ?_, rfl⟩; (show rel.slot _ _ = _; simp only [rel.slot_lit, List.getD_cons_succ, List.getD_cons_zero]; (first | done | exact rfl)))); (simp only [rel.put_lit, List.set_cons_succ, List.set_cons_zero]))
    (apply rel.walk_rel (fun u w' => sch.IsG w' u (GL)) ⟨_, rfl⟩ (fun u w1 w2 h1 h2 => h2.on h1); (focus (intro wq hq hf; go_wp2_with (go_at_call 59; with_reducible refine (hcl _ (hb0.trans (hq.mono hb0.size))).mono ?_; rintro e w'' ⟨⟨u, rfl, hu⟩, hb⟩); refine ⟨hq.trans (hb.mono hq.size), hb, ?_, rfl⟩; (show sch.IsG _ (rel.slot _ _) _; simp only [rel.slot_lit, List.getD_cons_succ, List.getD_cons_zero]; exact hu))); (intro u wu _ hu; obtain ⟨pz, t_pz, rfl, -⟩ := hu; (simp only [rel.put_lit, List.set_cons_succ, List.set_cons_zero])))
    (apply rel.walk_val; (focus (intro wq hq hf; go_wp2; refine ⟨hq, Below.refl _ _, ?_, rfl⟩; (show rel.slot _ _ = _; simp only [rel.slot_lit, List.getD_cons_succ, List.getD_cons_zero]; (first | done | exact rfl)))); (simp only [rel.put_lit, List.set_cons_succ, List.set_cons_zero]))
    ((apply rel.walk_val; (focus (intro wq hq hf; (obtain ⟨d0, d1⟩ := ((hA).below hq (hA).lt).cells2); go_wp2; refine ⟨hq, Below.refl _ _, ?_, rfl⟩; (show rel.slot _ _ = _; simp only [rel.slot_lit, List.getD_cons_succ, List.getD_cons_zero]; (first | done | exact rfl)))); (simp only [rel.put_lit, List.set_cons_succ, List.set_cons_zero])))
    (apply rel.walk_val; (focus (intro wq hq hf; go_wp2; refine ⟨hq, Below.refl _ _, ?_, rfl⟩; (show rel.slot _ _ = _; simp only [rel.slot_lit, List.getD_cons_succ, List.getD_cons_zero]; (first | done | exact rfl)))); (simp only [rel.put_lit, List.set_cons_succ, List.set_cons_zero]))
    refine rel.walk_nil ?_
    intro w9 K9 hF
    have hu : IsG w9 (.pointer pz) GL := hF _ (List.mem_cons_self ..)
    have hR9 := hR.on K9
    obtain ⟨d0, d1⟩ := hR9.cells2
    have f0 := hR9.free 0
    have f1 := hR9.free 1
    clear hF hcl
    simp only [List.drop_succ_cons, List.drop_zero]
    go_wp2_with fail
    rw [hwr.out]
    have hu2 := hdone.out _ _ hu
    obtain ⟨W9, hW9, hS, hQ, hB, -⟩ := stored (k := (M.length : Int)) rfl hR9 (by omega) (hb0.trans (K9.mono hb0.size)) hu2
    rw [hW9]
    obtain ⟨g0, g1⟩ := hS.cells2
    refine bodyPost_ret (v := rv pz M.length) (by simp [results, Try.results28, go_sem, g0, g1]) rfl ⟨⟨_, rfl, hQ⟩, hB⟩

set_option maxHeartbeats 8000000 in
theorem set_drop {v : Value} {l : List Int} {x : Int} {w : World} (hv : IsSet w w.heap.size v l) (hx : (Lit.int .i64 x).wf = true) (hbd : l.length < 1152921504606846900) :
    Calls Try.prog 24 #[v, .int .i64 x] w fun e w' => (∃ q, e = .returned (rv q (del x l).length) ∧ IsSet w' w'.heap.size (rv q (del x l).length) (del x l)) ∧ Below w.heap.size w w' := by
  have hv0 := hv
  obtain ⟨p, t, rfl, hn, hi, hk, ha, hw⟩ := hv
  obtain ⟨Wa, hW0⟩ : ∃ Wa, ((w.alloc (.cells #[.pointer p, .int .i64 l.length] tyH)).alloc (.cells #[.pointer none, .int .i64 0] tyH)) = Wa := ⟨_, rfl⟩
  have hR : hp.Blk Wa (w.heap.size + 1) tyH [.pointer none, .int .i64 0] := by
    rw [← hW0]
    exact hp.Blk.newAt (by simp)
  have hA : hp.Blk Wa w.heap.size tyH [.pointer p, .int .i64 l.length] := by
    rw [← hW0]
    exact (hp.Blk.newAt (by simp)).alloc _
  have hb0 : Below w.heap.size w Wa := by
    rw [← hW0]
    ((repeat' (first | with_reducible exact Below.refl _ _ | with_reducible apply Below.setCell | with_reducible apply below_drewN | with_reducible apply Below.drew | with_reducible apply Below.alloc | with_reducible refine Below.trans ?_ (Below.mono (by assumption) ?_))) <;> (first | (simp; done) | (simp; omega) | omega))
  have hhas := fun W (hW : Below w.heap.size w W) => set_has (x := x) (b := decide (x ∈ l)) (hv0.on hW) rfl
  have hv1 := hv0.on hb0
  by_cases hm : x ∉ l
  · have hsame : del x l = l := del_same hm
    rw [hsame]
    rw [show decide (x ∈ l) = false by simpa using hm] at hhas
    obtain ⟨c0, c1⟩ := hA.cells2
    obtain ⟨d0, d1⟩ := hR.cells2
    have f0 := hR.free 0
    have f1 := hR.free 1
    obtain ⟨N, hN⟩ : ∃ N : Int, (l.length : Int) = N := ⟨_, rfl⟩
    replace hv0 := Lib.hid hv0
    clear hn hi hk ha hw hbd hm hsame
    rw [hN] at c1 hA hW0
    simp only [rv, hN] at hhas
    rw [show rv p l.length = .agg #[.pointer p, .int .i64 N] by rw [← hN]]
    replace hN := Lib.hid hN
    have K := hb0
    go_enter Try.func24, Try.ntmps24
    go_wp2_with (go_at_call 36; with_reducible refine (hhas _ hb0).mono ?_; clear hhas; rintro e w1 ⟨rfl, hb1⟩; replace hA := hA.on hb1; replace hR := hR.on hb1; replace hv1 := hv1.on hb1; replace K := hb0.trans (hb1.mono hb0.size); clear c0 c1 d0 d1 f0 f1; obtain ⟨c0, c1⟩ := hA.cells2; obtain ⟨d0, d1⟩ := hR.cells2; have f0 := hR.free 0; have f1 := hR.free 1; clear hb1)
    obtain ⟨W9, hW9, hS, hQ, hB, -⟩ := stored (k := N) hN.out.symm hR (by omega) K hv1
    rw [hW9]
    obtain ⟨g0, g1⟩ := hS.cells2
    refine bodyPost_ret (v := rv p l.length) (by simp [results, Try.results24, go_sem, g0, g1]) rfl ⟨⟨_, rfl, hQ⟩, hB⟩
  · have hcl := fun W (hW : Below w.heap.size w W) => drop_any t x p W (hn.grow hW hW.size) hi (by rw [hk]; exact ha) (by rw [hk]; exact Classical.not_not.1 hm) (by rw [hk]; omega)
    rw [hk] at hcl
    rw [show decide (x ∈ l) = true by simpa using hm] at hhas
    have hlen := del_len ha (Classical.not_not.1 hm)
    have hwr : ((l.length : Int) - 1) = ((del x l).length : Int) := by omega
    have hdone : Hid (∀ W q, IsG W (.pointer q) (Good (del x l) (hgt t - 1) (hgt t)) → IsSet W W.heap.size (rv q (del x l).length) (del x l)) := Lib.hid fun W q h => isSet_of h (del_asc x ha) (del_wf hw)
    obtain ⟨M, hM⟩ : ∃ M, del x l = M := ⟨_, rfl⟩
    rw [hM] at hwr hdone hcl hlen ⊢
    obtain ⟨N, hN⟩ : ∃ N : Int, (l.length : Int) = N := ⟨_, rfl⟩
    rw [hN] at hwr hA
    simp only [rv, hN] at hhas
    have hN2 : 0 ≤ N ∧ N < 1152921504606846900 := by omega
    have hN5 : 1 ≤ N := by omega
    replace hwr := Lib.hid hwr
    rw [hN] at hW0
    rw [show rv p l.length = .agg #[.pointer p, .int .i64 N] by rw [← hN]]
    replace hN := Lib.hid hN
    generalize hGL : Good M (hgt t - 1) (hgt t) = GL at *
    replace hGL := Lib.hid hGL
    obtain ⟨hN3, hN4⟩ := hN2
    replace hlen := Lib.hid hlen
    clear hn hi hk ha hw hbd hm hv0 hv1 hM
    have K := hb0
    obtain ⟨c0, c1⟩ := hA.cells2
    go_enter Try.func24, Try.ntmps24
    go_wp2_with (go_at_call 36; with_reducible refine (hhas _ hb0).mono ?_; clear hhas; rintro e W0 ⟨rfl, hb1⟩; replace hA := hA.on hb1; replace hR := hR.on hb1; replace K := hb0.trans (hb1.mono hb0.size); clear c0 c1 hb1 hb0 hW0)
    have hb0 := K
    apply rel.region_tail (C := fun w' => Below W0.heap.size W0 w') (X := fun w w' => Below w.heap.size w w') 7 (by kernel_rfl) (by kernel_rfl) (by kernel_rfl) (by kernel_rfl) ((Below.refl W0.heap.size W0).drew)
    (apply rel.walk_val; (focus (intro wq hq hf; go_wp2; refine ⟨hq, Below.refl _ _, ?_, rfl⟩; (show rel.slot _ _ = _; simp only [rel.slot_lit, List.getD_cons_succ, List.getD_cons_zero]; (first | done | exact rfl)))); (simp only [rel.put_lit, List.set_cons_succ, List.set_cons_zero]))
    ((apply rel.walk_val; (focus (intro wq hq hf; (obtain ⟨d0, d1⟩ := ((hA).below hq (hA).lt).cells2); go_wp2; refine ⟨hq, Below.refl _ _, ?_, rfl⟩; (show rel.slot _ _ = _; simp only [rel.slot_lit, List.getD_cons_succ, List.getD_cons_zero]; (first | done | exact rfl)))); (simp only [rel.put_lit, List.set_cons_succ, List.set_cons_zero])))
    (apply rel.walk_val; (focus (intro wq hq hf; go_wp2; refine ⟨hq, Below.refl _ _, ?_, rfl⟩; (show rel.slot _ _ = _; simp only [rel.slot_lit, List.getD_cons_succ, List.getD_cons_zero]; (first | done | exact rfl)))); (simp only [rel.put_lit, List.set_cons_succ, List.set_cons_zero]))
    (apply rel.walk_rel (fun u w' => sch.IsG w' u (GL)) ⟨_, rfl⟩ (fun u w1 w2 h1 h2 => h2.on h1); (focus (intro wq hq hf; go_wp2_with (go_at_call 53; with_reducible refine (hcl _ (hb0.trans (hq.mono hb0.size))).mono ?_; rintro e w'' ⟨⟨u, rfl, hu⟩, hb⟩); refine ⟨hq.trans (hb.mono hq.size), hb, ?_, rfl⟩; (show sch.IsG _ (rel.slot _ _) _; simp only [rel.slot_lit, List.getD_cons_succ, List.getD_cons_zero]; exact hu))); (intro u wu _ hu; obtain ⟨pz, t_pz, rfl, -⟩ := hu; (simp only [rel.put_lit, List.set_cons_succ, List.set_cons_zero])))
    (apply rel.walk_val; (focus (intro wq hq hf; go_wp2; refine ⟨hq, Below.refl _ _, ?_, rfl⟩; (show rel.slot _ _ = _; simp only [rel.slot_lit, List.getD_cons_succ, List.getD_cons_zero]; (first | done | exact rfl)))); (simp only [rel.put_lit, List.set_cons_succ, List.set_cons_zero]))
    ((apply rel.walk_val; (focus (intro wq hq hf; (obtain ⟨d0, d1⟩ := ((hA).below hq (hA).lt).cells2); go_wp2; refine ⟨hq, Below.refl _ _, ?_, rfl⟩; (show rel.slot _ _ = _; simp only [rel.slot_lit, List.getD_cons_succ, List.getD_cons_zero]; (first | done | exact rfl)))); (simp only [rel.put_lit, List.set_cons_succ, List.set_cons_zero])))
    (apply rel.walk_val; (focus (intro wq hq hf; go_wp2; refine ⟨hq, Below.refl _ _, ?_, rfl⟩; (show rel.slot _ _ = _; simp only [rel.slot_lit, List.getD_cons_succ, List.getD_cons_zero]; (first | done | exact rfl)))); (simp only [rel.put_lit, List.set_cons_succ, List.set_cons_zero]))
    refine rel.walk_nil ?_
    intro w9 K9 hF
    have hu : IsG w9 (.pointer pz) GL := hF _ (List.mem_cons_self ..)
    have hR9 := hR.on K9
    obtain ⟨d0, d1⟩ := hR9.cells2
    have f0 := hR9.free 0
    have f1 := hR9.free 1
    clear hF hcl
    simp only [List.drop_succ_cons, List.drop_zero]
    go_wp2_with fail
    rw [hwr.out]
    have hu2 := hdone.out _ _ hu
    obtain ⟨W9, hW9, hS, hQ, hB, -⟩ := stored (k := (M.length : Int)) rfl hR9 (by omega) (hb0.trans (K9.mono hb0.size)) hu2
    rw [hW9]
    obtain ⟨g0, g1⟩ := hS.cells2
    refine bodyPost_ret (v := rv pz M.length) (by simp [results, Try.results24, go_sem, g0, g1]) rfl ⟨⟨_, rfl, hQ⟩, hB⟩

end Go.Proofs.Ytlaflhnnddfkkaa.avl
