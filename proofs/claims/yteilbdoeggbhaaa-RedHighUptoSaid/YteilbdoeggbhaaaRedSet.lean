/- Package red: a tree of a list; sets. -/
import Derived.Test.YteilbdoeggbhaaaRedOps
import Derived.Test.YteilbdoeggbhaaaSchDist
import Derived.Test.YteilbdoeggbhaaaInts
import Derived.Test.YteilbdoeggbhaaaBits
namespace Go.Proofs.Yteilbdoeggbhaaa.red
open Go Go.RowKit
open Go.Proofs.Yteilbdoeggbhaaa.sch

abbrev tyH : TypeId := 27

/-- so many numbers fill k rows; what remains is one row at most -/
def Fill (n k : Nat) : Prop := 2 ^ k ≤ n + 1 ∧ n + 1 ≤ 2 ^ (k + 1)
theorem Fill.halves {n k : Nat} (h : Fill n (k + 1)) : Fill (n / 2) k ∧ Fill (n - (n / 2 + 1)) k ∧ 1 ≤ n := by
  obtain ⟨h1, h2⟩ := h
  have h3 : 1 ≤ 2 ^ k := Nat.one_le_two_pow
  rw [Nat.pow_succ, Nat.pow_succ] at h2
  rw [Nat.pow_succ] at h1
  unfold Fill
  rw [Nat.pow_succ]
  omega
theorem Fill.zero {n : Nat} (h : Fill n 0) : n ≤ 1 := by
  have h2 := h.2
  simp at h2
  omega

/-- a tree of this list with k black ones on each way -/
def Made (l : List Int) (k : Nat) (t : Tr) : Prop := keys t = l ∧ Rb t k ∧ (k ≠ 0 → top t ≠ 1)
theorem made_nil : Made [] 0 .nil := ⟨rfl, rfl, fun _ => by simp [top]⟩
theorem over_made {x : Int} {a b : List Int} {k : Nat} {p q : Option Addr} {w : World} (ha : IsG w (.pointer p) (Made a k)) (hb : IsG w (.pointer q) (Made b k)) :
    Calls Try.prog 41 #[.int .i64 0, .int .i64 x, .pointer p, .pointer q] w fun e w' => (∃ u, e = .returned u ∧ IsG w' u (Made (a ++ x :: b) (k + 1))) ∧ Below w.heap.size w w' := by
  obtain ⟨_, s, he, hn, hk, hr, -⟩ := ha
  obtain ⟨_, t, he2, hn2, hk2, hr2, -⟩ := hb
  cases he
  cases he2
  refine (over_any (m := 0) (x := x) hn.t hn2.t).mono ?_
  rintro e w' ⟨⟨u, rfl, h⟩, hb⟩
  exact ⟨⟨u, rfl, h.g ⟨by simp only [keys]; rw [hk, hk2], hr.black hr2, fun _ => by simp [top]⟩⟩, hb⟩
theorem keys_nil {t : Tr} (h : keys t = []) : t = .nil := by
  rcases t with _ | ⟨x, m, l, r⟩
  · rfl
  · simp [keys] at h
theorem over_leaf {x : Int} {p q : Option Addr} {w : World} (ha : IsG w (.pointer p) (Made [] 0)) (hb : IsG w (.pointer q) (Made [] 0)) :
    Calls Try.prog 41 #[.int .i64 1, .int .i64 x, .pointer p, .pointer q] w fun e w' => (∃ u, e = .returned u ∧ IsG w' u (Made [x] 0)) ∧ Below w.heap.size w w' := by
  obtain ⟨_, s, he, hn, hk, hr, -⟩ := ha
  obtain ⟨_, t, he2, hn2, hk2, hr2, -⟩ := hb
  cases he
  cases he2
  obtain rfl := keys_nil hk
  obtain rfl := keys_nil hk2
  refine (over_any (m := 1) (x := x) hn.t hn2.t).mono ?_
  rintro e w' ⟨⟨u, rfl, h⟩, hb⟩
  exact ⟨⟨u, rfl, h.g ⟨rfl, hr.red hr2 (by simp [top]) (by simp [top]), fun h => absurd rfl h⟩⟩, hb⟩

set_option maxHeartbeats 4000000 in
theorem of_nil {v : Value} {r : Int} {w : World} (hv : hp.IsInts w w.heap.size v []) :
    Calls Try.prog 36 #[v, .int .i64 r] w fun e w' => (∃ u, e = .returned u ∧ IsG w' u (Made [] 0)) ∧ Below w.heap.size w w' := by
  obtain ⟨ad, cap, rfl, -⟩ := hv
  go_enter Try.func36, Try.ntmps36
  go_wp2_with fail
  go_ret
  exact ⟨⟨_, rfl, ⟨none, .nil, rfl, rfl, made_nil⟩⟩, Below.refl _ _⟩

attribute [-go_sem] sliced in
set_option maxHeartbeats 8000000 in
theorem of_one {x : Int} {v : Value} {w : World} (hv : hp.IsInts w w.heap.size v [x]) :
    Calls Try.prog 36 #[v, .int .i64 0] w fun e w' => (∃ u, e = .returned u ∧ IsG w' u (Made [x] 0)) ∧ Below w.heap.size w w' := by
  have hv' := hv
  obtain ⟨ad, cap, rfl, hcap, -, -, hc⟩ := hv'
  obtain ⟨b, off, rfl, hb, hcell⟩ := hc (by simp)
  have cx := hcell 0 (by simp)
  have s1 := fun W (hW : Below w.heap.size w W) r => of_nil (r := r) (w := W) (((hv.below hW).mono hW.size).sliced (i := 0) (j := 0) (Nat.le_refl _) (by simp))
  have s2 := fun W (hW : Below w.heap.size w W) r => of_nil (r := r) (w := W) (((hv.below hW).mono hW.size).from (i := 1) (by simp))
  have s3 := fun W p q (hp : IsG W (.pointer p) (Made [] 0)) (hq : IsG W (.pointer q) (Made [] 0)) => over_leaf (x := x) hp hq
  simp only [Nat.add_zero] at cx
  simp only [List.length_cons, List.length_nil] at s1 s2 hcap ⊢
  generalize Made [] 0 = GT at *
  generalize Made [x] 0 = GL at *
  have K := Below.refl w.heap.size w
  clear hv hc hcell
  go_enter Try.func36, Try.ntmps36
  go_wp2_with fail
  apply rel.region_tail (C := fun w' => Below w.heap.size w w') (X := fun w w' => Below w.heap.size w w') 19 (by kernel_rfl) (by kernel_rfl) (by kernel_rfl) (by kernel_rfl) (K.drew)
  (apply rel.walk_val; (focus (intro wq hq hf; go_wp2; refine ⟨hq, Below.refl _ _, ?_, rfl⟩; (show rel.slot _ _ = _; simp only [rel.slot_lit, List.getD_cons_succ, List.getD_cons_zero]; (first | done | exact rfl)))); (simp only [rel.put_lit, List.set_cons_succ, List.set_cons_zero]))
  (apply rel.walk_val; (focus (intro wq hq hf; go_wp2; refine ⟨hq, Below.refl _ _, ?_, rfl⟩; (show rel.slot _ _ = _; simp only [rel.slot_lit, List.getD_cons_succ, List.getD_cons_zero]; (first | done | exact rfl)))); (simp only [rel.put_lit, List.set_cons_succ, List.set_cons_zero]))
  (apply rel.walk_val; (focus (intro wq hq hf; go_wp2; refine ⟨hq, Below.refl _ _, ?_, rfl⟩; (show rel.slot _ _ = _; simp only [rel.slot_lit, List.getD_cons_succ, List.getD_cons_zero]; (first | done | exact rfl)))); (simp only [rel.put_lit, List.set_cons_succ, List.set_cons_zero]))
  (apply rel.walk_val; (focus (intro wq hq hf; go_wp2; refine ⟨hq, Below.refl _ _, ?_, rfl⟩; (show rel.slot _ _ = _; simp only [rel.slot_lit, List.getD_cons_succ, List.getD_cons_zero]; (first | done | exact rfl)))); (simp only [rel.put_lit, List.set_cons_succ, List.set_cons_zero]))
  ((apply rel.walk_val; (focus (intro wq hq hf; (have d0 := (hq.cell (p := ⟨b, off, none⟩) hb).trans cx); go_wp2; refine ⟨hq, Below.refl _ _, ?_, rfl⟩; (show rel.slot _ _ = _; simp only [rel.slot_lit, List.getD_cons_succ, List.getD_cons_zero]; (first | done | exact rfl)))); (simp only [rel.put_lit, List.set_cons_succ, List.set_cons_zero])))
  (apply rel.walk_val; (focus (intro wq hq hf; go_wp2; refine ⟨hq, Below.refl _ _, ?_, rfl⟩; (show rel.slot _ _ = _; simp only [rel.slot_lit, List.getD_cons_succ, List.getD_cons_zero]; (first | done | exact rfl)))); (simp only [rel.put_lit, List.set_cons_succ, List.set_cons_zero]))
  (apply rel.walk_val; (focus (intro wq hq hf; go_wp2; refine ⟨hq, Below.refl _ _, ?_, rfl⟩; (show rel.slot _ _ = _; simp only [rel.slot_lit, List.getD_cons_succ, List.getD_cons_zero]; (first | done | exact rfl)))); (simp only [rel.put_lit, List.set_cons_succ, List.set_cons_zero]))
  (apply rel.walk_val; (focus (intro wq hq hf; go_wp2; refine ⟨hq, Below.refl _ _, ?_, rfl⟩; (show rel.slot _ _ = _; simp only [rel.slot_lit, List.getD_cons_succ, List.getD_cons_zero]; (first | done | exact rfl)))); (simp only [rel.put_lit, List.set_cons_succ, List.set_cons_zero]))
  (apply rel.walk_val; (focus (intro wq hq hf; go_wp2; refine ⟨hq, Below.refl _ _, ?_, rfl⟩; (show rel.slot _ _ = _; simp only [rel.slot_lit, List.getD_cons_succ, List.getD_cons_zero]; (first | done | exact rfl)))); (simp only [rel.put_lit, List.set_cons_succ, List.set_cons_zero]))
  (apply rel.walk_val; (focus (intro wq hq hf; go_wp2; refine ⟨hq, Below.refl _ _, ?_, rfl⟩; (show rel.slot _ _ = _; simp only [rel.slot_lit, List.getD_cons_succ, List.getD_cons_zero]; (first | done | exact rfl)))); (simp only [rel.put_lit, List.set_cons_succ, List.set_cons_zero]))
  (apply rel.walk_rel (fun u w' => sch.IsG w' u (GT)) ⟨_, rfl⟩ (fun u w1 w2 h1 h2 => h2.on h1); (focus (intro wq hq hf; go_wp2_with (go_at_call 36; with_reducible refine (s1 _ hq _).mono ?_; rintro e w'' ⟨⟨u, rfl, hu⟩, hb⟩); refine ⟨hq.trans (hb.mono hq.size), hb, ?_, rfl⟩; (show sch.IsG _ (rel.slot _ _) _; simp only [rel.slot_lit, List.getD_cons_succ, List.getD_cons_zero]; exact hu))); (intro u wu _ hu; obtain ⟨pu, t_pu, rfl, -⟩ := hu; (simp only [rel.put_lit, List.set_cons_succ, List.set_cons_zero])))
  (apply rel.walk_val; (focus (intro wq hq hf; go_wp2; refine ⟨hq, Below.refl _ _, ?_, rfl⟩; (show rel.slot _ _ = _; simp only [rel.slot_lit, List.getD_cons_succ, List.getD_cons_zero]; (first | done | exact rfl)))); (simp only [rel.put_lit, List.set_cons_succ, List.set_cons_zero]))
  (apply rel.walk_val; (focus (intro wq hq hf; go_wp2; refine ⟨hq, Below.refl _ _, ?_, rfl⟩; (show rel.slot _ _ = _; simp only [rel.slot_lit, List.getD_cons_succ, List.getD_cons_zero]; (first | done | exact rfl)))); (simp only [rel.put_lit, List.set_cons_succ, List.set_cons_zero]))
  (apply rel.walk_val; (focus (intro wq hq hf; go_wp2; refine ⟨hq, Below.refl _ _, ?_, rfl⟩; (show rel.slot _ _ = _; simp only [rel.slot_lit, List.getD_cons_succ, List.getD_cons_zero]; (first | done | exact rfl)))); (simp only [rel.put_lit, List.set_cons_succ, List.set_cons_zero]))
  (apply rel.walk_val; (focus (intro wq hq hf; go_wp2; refine ⟨hq, Below.refl _ _, ?_, rfl⟩; (show rel.slot _ _ = _; simp only [rel.slot_lit, List.getD_cons_succ, List.getD_cons_zero]; (first | done | exact rfl)))); (simp only [rel.put_lit, List.set_cons_succ, List.set_cons_zero]))
  (apply rel.walk_val; (focus (intro wq hq hf; go_wp2; refine ⟨hq, Below.refl _ _, ?_, rfl⟩; (show rel.slot _ _ = _; simp only [rel.slot_lit, List.getD_cons_succ, List.getD_cons_zero]; (first | done | exact rfl)))); (simp only [rel.put_lit, List.set_cons_succ, List.set_cons_zero]))
  (apply rel.walk_val; (focus (intro wq hq hf; go_wp2; refine ⟨hq, Below.refl _ _, ?_, rfl⟩; (show rel.slot _ _ = _; simp only [rel.slot_lit, List.getD_cons_succ, List.getD_cons_zero]; (first | done | exact rfl)))); (simp only [rel.put_lit, List.set_cons_succ, List.set_cons_zero]))
  (apply rel.walk_rel (fun u w' => sch.IsG w' u (GT)) ⟨_, rfl⟩ (fun u w1 w2 h1 h2 => h2.on h1); (focus (intro wq hq hf; go_wp2_with (go_at_call 36; with_reducible refine (s2 _ hq _).mono ?_; rintro e w'' ⟨⟨u, rfl, hu⟩, hb⟩); refine ⟨hq.trans (hb.mono hq.size), hb, ?_, rfl⟩; (show sch.IsG _ (rel.slot _ _) _; simp only [rel.slot_lit, List.getD_cons_succ, List.getD_cons_zero]; exact hu))); (intro u wu _ hu; obtain ⟨pt, t_pt, rfl, -⟩ := hu; (simp only [rel.put_lit, List.set_cons_succ, List.set_cons_zero])))
  (apply rel.walk_rel (fun u w' => sch.IsG w' u (GL)) ⟨_, rfl⟩ (fun u w1 w2 h1 h2 => h2.on h1); (focus (intro wq hq hf; go_wp2_with (go_at_call 41; with_reducible refine (s3 _ _ _ (hf.get 1 rfl rfl) (hf.get 0 rfl rfl)).mono ?_; rintro e w'' ⟨⟨u, rfl, hu⟩, hb⟩); refine ⟨hq.trans (hb.mono hq.size), hb, ?_, rfl⟩; (show sch.IsG _ (rel.slot _ _) _; simp only [rel.slot_lit, List.getD_cons_succ, List.getD_cons_zero]; exact hu))); (intro u wu _ hu; obtain ⟨pz, t_pz, rfl, -⟩ := hu; (simp only [rel.put_lit, List.set_cons_succ, List.set_cons_zero])))
  refine rel.walk_nil ?_
  intro w9 K9 hF
  have hu : IsG w9 (.pointer pz) GL := hF _ (List.mem_cons_self ..)
  clear hF
  simp only [List.drop_succ_cons, List.drop_zero]
  go_wp2
  go_ret
  exact ⟨⟨_, rfl, hu⟩, K9⟩

attribute [-go_sem] sliced in
set_option maxHeartbeats 8000000 in
theorem of_tree : ∀ (j : Nat) (l : List Int) (v : Value) (w : World), Fill l.length j → l.length < 1152921504606846976 → j < 64 → hp.IsInts w w.heap.size v l →
    Calls Try.prog 36 #[v, .int .i64 (j : Int)] w fun e w' => (∃ u, e = .returned u ∧ IsG w' u (Made l j)) ∧ Below w.heap.size w w' := by
  intro j
  induction j with
  | zero =>
    intro l v w hF hbd hj hv
    have hl := hF.zero
    match l, hl with
    | [], _ => exact of_nil hv
    | [x], _ => exact of_one hv
  | succ j ih =>
    intro l v w hF hbd hj hv
    obtain ⟨F1, F2, h1⟩ := hF.halves
    obtain ⟨n, hn⟩ : ∃ n, l.length = n := ⟨_, rfl⟩
    obtain ⟨k, hk⟩ : ∃ k, n / 2 = k := ⟨_, rfl⟩
    rw [hn] at F1 F2 h1
    rw [hk] at F1 F2
    have hv' := hv
    obtain ⟨ad, cap, rfl, hcap, -, -, hc⟩ := hv'
    obtain ⟨b, off, rfl, hb, hcell⟩ := hc (by omega)
    have cx := hcell k (by omega)
    have s1 := fun W (hW : Below w.heap.size w W) => ih (l.take k) _ W (by rw [List.length_take, Nat.min_eq_left (by omega)]; exact F1) (by simp; omega) (by omega) (((hv.below hW).mono hW.size).sliced (i := 0) (j := k) (Nat.zero_le _) (by omega))
    have s2 := fun W (hW : Below w.heap.size w W) => ih (l.drop (k + 1)) _ W (by rw [List.length_drop, hn]; exact F2) (by simp; omega) (by omega) (((hv.below hW).mono hW.size).from (i := k + 1) (by omega))
    have s3 := fun W p q (hp : IsG W (.pointer p) (Made (l.take k) j)) (hq : IsG W (.pointer q) (Made (l.drop (k + 1)) j)) => over_made (x := l.getD k 0) hp hq
    have hl : l.take k ++ l.getD k 0 :: l.drop (k + 1) = l := by
      have := List.take_append_drop k l
      rw [List.drop_eq_getElem_cons (by omega)] at this
      rw [show l.getD k 0 = l[k] by simp [show k < l.length by omega]]
      exact this
    rw [hl] at s3
    rw [hn] at s2 hcap ⊢
    obtain ⟨R, hR⟩ : ∃ R : Int, ((j + 1 : Nat) : Int) = R := ⟨_, rfl⟩
    have hRj : (j : Int) = R - 1 := by omega
    rw [hR]
    rw [hRj] at s1 s2
    have hR0 : ¬ R = 0 := by omega
    have hR1 : 0 ≤ R := by omega
    have hR2 : R ≤ 64 := by omega
    generalize hT : l.take k = T at *
    generalize hD : l.drop (k + 1) = D at *
    generalize l.getD k 0 = x at *
    generalize Made T j = GT at *
    generalize Made D j = GD at *
    generalize Made l (j + 1) = GL at *
    have hq : ((n : Int)).tdiv 2 = (k : Int) := by rw [Int.tdiv_eq_ediv_of_nonneg (by omega)]; omega
    have hkn : k + 1 ≤ n := by omega
    have hn2 : n < 1152921504606846976 := by omega
    have K := Below.refl w.heap.size w
    clear ih hF hbd hv hn hk hT hD hl hc hcell F1 F2 hR hRj hj
    go_enter Try.func36, Try.ntmps36
    go_wp2_with fail
    apply rel.region_tail (C := fun w' => Below w.heap.size w w') (X := fun w w' => Below w.heap.size w w') 19 (by kernel_rfl) (by kernel_rfl) (by kernel_rfl) (by kernel_rfl) (K.drew)
    (apply rel.walk_val; (focus (intro wq hq hf; go_wp2; refine ⟨hq, Below.refl _ _, ?_, rfl⟩; (show rel.slot _ _ = _; simp only [rel.slot_lit, List.getD_cons_succ, List.getD_cons_zero]; (first | done | exact rfl)))); (simp only [rel.put_lit, List.set_cons_succ, List.set_cons_zero]))
    (apply rel.walk_val; (focus (intro wq hq hf; go_wp2; refine ⟨hq, Below.refl _ _, ?_, rfl⟩; (show rel.slot _ _ = _; simp only [rel.slot_lit, List.getD_cons_succ, List.getD_cons_zero]; (first | done | exact rfl)))); (simp only [rel.put_lit, List.set_cons_succ, List.set_cons_zero]))
    (apply rel.walk_val; (focus (intro wq hq hf; go_wp2; refine ⟨hq, Below.refl _ _, ?_, rfl⟩; (show rel.slot _ _ = _; simp only [rel.slot_lit, List.getD_cons_succ, List.getD_cons_zero]; (first | done | exact rfl)))); (simp only [rel.put_lit, List.set_cons_succ, List.set_cons_zero]))
    (apply rel.walk_val; (focus (intro wq hq hf; go_wp2; refine ⟨hq, Below.refl _ _, ?_, rfl⟩; (show rel.slot _ _ = _; simp only [rel.slot_lit, List.getD_cons_succ, List.getD_cons_zero]; (first | done | exact rfl)))); (simp only [rel.put_lit, List.set_cons_succ, List.set_cons_zero]))
    ((apply rel.walk_val; (focus (intro wq hq hf; (have d0 := (hq.cell (p := ⟨b, off + k, none⟩) hb).trans cx); go_wp2; refine ⟨hq, Below.refl _ _, ?_, rfl⟩; (show rel.slot _ _ = _; simp only [rel.slot_lit, List.getD_cons_succ, List.getD_cons_zero]; (first | done | exact rfl)))); (simp only [rel.put_lit, List.set_cons_succ, List.set_cons_zero])))
    (apply rel.walk_val; (focus (intro wq hq hf; go_wp2; refine ⟨hq, Below.refl _ _, ?_, rfl⟩; (show rel.slot _ _ = _; simp only [rel.slot_lit, List.getD_cons_succ, List.getD_cons_zero]; (first | done | exact rfl)))); (simp only [rel.put_lit, List.set_cons_succ, List.set_cons_zero]))
    (apply rel.walk_val; (focus (intro wq hq hf; go_wp2; refine ⟨hq, Below.refl _ _, ?_, rfl⟩; (show rel.slot _ _ = _; simp only [rel.slot_lit, List.getD_cons_succ, List.getD_cons_zero]; (first | done | exact rfl)))); (simp only [rel.put_lit, List.set_cons_succ, List.set_cons_zero]))
    (apply rel.walk_val; (focus (intro wq hq hf; go_wp2; refine ⟨hq, Below.refl _ _, ?_, rfl⟩; (show rel.slot _ _ = _; simp only [rel.slot_lit, List.getD_cons_succ, List.getD_cons_zero]; (first | done | exact rfl)))); (simp only [rel.put_lit, List.set_cons_succ, List.set_cons_zero]))
    (apply rel.walk_val; (focus (intro wq hq hf; go_wp2; refine ⟨hq, Below.refl _ _, ?_, rfl⟩; (show rel.slot _ _ = _; simp only [rel.slot_lit, List.getD_cons_succ, List.getD_cons_zero]; (first | done | exact rfl)))); (simp only [rel.put_lit, List.set_cons_succ, List.set_cons_zero]))
    (apply rel.walk_val; (focus (intro wq hq hf; go_wp2; refine ⟨hq, Below.refl _ _, ?_, rfl⟩; (show rel.slot _ _ = _; simp only [rel.slot_lit, List.getD_cons_succ, List.getD_cons_zero]; (first | done | exact rfl)))); (simp only [rel.put_lit, List.set_cons_succ, List.set_cons_zero]))
    (apply rel.walk_rel (fun u w' => sch.IsG w' u (GT)) ⟨_, rfl⟩ (fun u w1 w2 h1 h2 => h2.on h1); (focus (intro wq hq hf; go_wp2_with (go_at_call 36; with_reducible refine (s1 _ hq).mono ?_; rintro e w'' ⟨⟨u, rfl, hu⟩, hb⟩); refine ⟨hq.trans (hb.mono hq.size), hb, ?_, rfl⟩; (show sch.IsG _ (rel.slot _ _) _; simp only [rel.slot_lit, List.getD_cons_succ, List.getD_cons_zero]; exact hu))); (intro u wu _ hu; obtain ⟨pu, t_pu, rfl, -⟩ := hu; (simp only [rel.put_lit, List.set_cons_succ, List.set_cons_zero])))
    (apply rel.walk_val; (focus (intro wq hq hf; go_wp2; refine ⟨hq, Below.refl _ _, ?_, rfl⟩; (show rel.slot _ _ = _; simp only [rel.slot_lit, List.getD_cons_succ, List.getD_cons_zero]; (first | done | exact rfl)))); (simp only [rel.put_lit, List.set_cons_succ, List.set_cons_zero]))
    (apply rel.walk_val; (focus (intro wq hq hf; go_wp2; refine ⟨hq, Below.refl _ _, ?_, rfl⟩; (show rel.slot _ _ = _; simp only [rel.slot_lit, List.getD_cons_succ, List.getD_cons_zero]; (first | done | exact rfl)))); (simp only [rel.put_lit, List.set_cons_succ, List.set_cons_zero]))
    (apply rel.walk_val; (focus (intro wq hq hf; go_wp2; refine ⟨hq, Below.refl _ _, ?_, rfl⟩; (show rel.slot _ _ = _; simp only [rel.slot_lit, List.getD_cons_succ, List.getD_cons_zero]; (first | done | exact rfl)))); (simp only [rel.put_lit, List.set_cons_succ, List.set_cons_zero]))
    (apply rel.walk_val; (focus (intro wq hq hf; go_wp2; refine ⟨hq, Below.refl _ _, ?_, rfl⟩; (show rel.slot _ _ = _; simp only [rel.slot_lit, List.getD_cons_succ, List.getD_cons_zero]; (first | done | exact rfl)))); (simp only [rel.put_lit, List.set_cons_succ, List.set_cons_zero]))
    (apply rel.walk_val; (focus (intro wq hq hf; go_wp2; refine ⟨hq, Below.refl _ _, ?_, rfl⟩; (show rel.slot _ _ = _; simp only [rel.slot_lit, List.getD_cons_succ, List.getD_cons_zero]; (first | done | exact rfl)))); (simp only [rel.put_lit, List.set_cons_succ, List.set_cons_zero]))
    (apply rel.walk_val; (focus (intro wq hq hf; go_wp2; refine ⟨hq, Below.refl _ _, ?_, rfl⟩; (show rel.slot _ _ = _; simp only [rel.slot_lit, List.getD_cons_succ, List.getD_cons_zero]; (first | done | exact rfl)))); (simp only [rel.put_lit, List.set_cons_succ, List.set_cons_zero]))
    (apply rel.walk_rel (fun u w' => sch.IsG w' u (GD)) ⟨_, rfl⟩ (fun u w1 w2 h1 h2 => h2.on h1); (focus (intro wq hq hf; go_wp2_with (go_at_call 36; with_reducible refine (s2 _ hq).mono ?_; rintro e w'' ⟨⟨u, rfl, hu⟩, hb⟩); refine ⟨hq.trans (hb.mono hq.size), hb, ?_, rfl⟩; (show sch.IsG _ (rel.slot _ _) _; simp only [rel.slot_lit, List.getD_cons_succ, List.getD_cons_zero]; exact hu))); (intro u wu _ hu; obtain ⟨pt, t_pt, rfl, -⟩ := hu; (simp only [rel.put_lit, List.set_cons_succ, List.set_cons_zero])))
    (apply rel.walk_rel (fun u w' => sch.IsG w' u (GL)) ⟨_, rfl⟩ (fun u w1 w2 h1 h2 => h2.on h1); (focus (intro wq hq hf; go_wp2_with (go_at_call 41; with_reducible refine (s3 _ _ _ (hf.get 1 rfl rfl) (hf.get 0 rfl rfl)).mono ?_; rintro e w'' ⟨⟨u, rfl, hu⟩, hb⟩); refine ⟨hq.trans (hb.mono hq.size), hb, ?_, rfl⟩; (show sch.IsG _ (rel.slot _ _) _; simp only [rel.slot_lit, List.getD_cons_succ, List.getD_cons_zero]; exact hu))); (intro u wu _ hu; obtain ⟨pz, t_pz, rfl, -⟩ := hu; (simp only [rel.put_lit, List.set_cons_succ, List.set_cons_zero])))
    refine rel.walk_nil ?_
    intro w9 K9 hF
    have hu : IsG w9 (.pointer pz) GL := hF _ (List.mem_cons_self ..)
    clear hF
    simp only [List.drop_succ_cons, List.drop_zero]
    go_wp2
    go_ret
    exact ⟨⟨_, rfl, hu⟩, K9⟩

/-- a set of these numbers, its trees below block B -/
def IsSet (w : World) (B : Nat) (v : Value) (K : List Int) : Prop := ∃ p t, v = rv p K.length ∧ Nod B w t p ∧ Ok t ∧ keys t = K ∧ Asc K ∧ ∀ x ∈ K, (Lit.int .i64 x).wf = true

section
variable {w w' : World} {B B' : Nat} {v : Value} {l : List Int}
theorem IsSet.below (h : IsSet w B v l) (hb : Below B w w') : IsSet w' B v l := by
  obtain ⟨p, r, hv, hc, hw⟩ := h
  exact ⟨p, r, hv, hc.below hb, hw⟩
theorem IsSet.keep (h : IsSet w B v l) (hb : Keep w w') : IsSet w' B v l := by
  obtain ⟨p, r, hv, hc, hw⟩ := h
  exact ⟨p, r, hv, hc.keep hb, hw⟩
theorem IsSet.mono (h : IsSet w B v l) (hB : B ≤ B') : IsSet w B' v l := by
  obtain ⟨p, r, hv, hc, hw⟩ := h
  exact ⟨p, r, hv, hc.mono hB, hw⟩
theorem IsSet.on (h : IsSet w w.heap.size v l) (hb : Below w.heap.size w w') : IsSet w' w'.heap.size v l := (h.below hb).mono hb.size
theorem IsSet.wf (h : IsSet w B v l) : ∀ x ∈ l, (Lit.int .i64 x).wf = true := by obtain ⟨_, _, _, _, _, _, _, hw⟩ := h; exact hw
theorem IsSet.asc (h : IsSet w B v l) : Asc l := by obtain ⟨_, _, _, _, _, _, ha, _⟩ := h; exact ha
theorem IsSet.nil (w : World) (B : Nat) : IsSet w B (rv none 0) [] := ⟨none, .nil, rfl, rfl, Ok.nil, rfl, Asc.nil, by simp⟩
theorem IsSet.val (h : IsSet w B v l) : ∃ p, v = rv p l.length := by obtain ⟨p, _, hv, _⟩ := h; exact ⟨p, hv⟩
end
theorem isSet_of {w : World} {p : Option Addr} {t : Tr} {K : List Int} (h : IsT w (.pointer p) t) (ho : Ok t) (hk : keys t = K) (ha : Asc K) (hw : ∀ x ∈ K, (Lit.int .i64 x).wf = true) : IsSet w w.heap.size (rv p K.length) K :=
  ⟨p, t, rfl, h.nod, ho, hk, ha, hw⟩

/-- a set goes into a variable of the call's own -/
theorem stored {w W : World} {g : Nat} {a b : Value} {p : Option Addr} {l : List Int} {k : Int} (hk : k = (l.length : Int)) (hR : hp.Blk W g tyH [a, b]) (hg : w.heap.size ≤ g) (hb : Below w.heap.size w W) (h : IsSet W W.heap.size (rv p l.length) l) :
    ∃ W', (W.setCell ⟨g, 0, none⟩ (.pointer p)).setCell ⟨g, 1, none⟩ (.int .i64 k) = W' ∧ hp.Blk W' g tyH [.pointer p, .int .i64 l.length] ∧ IsSet W' W'.heap.size (rv p l.length) l ∧ Below w.heap.size w W' ∧ Keep W W' ∧ W'.heap.size = W.heap.size ∧ (∀ b t cs, b ≠ g → hp.Blk W b t cs → hp.Blk W' b t cs) := by
  subst hk
  have hK := (Keep.of_set (o := 0) hR (by decide) (.pointer p)).trans (Keep.of_set (o := 1) (hR.set 0 (.pointer p)) (by decide) (.int .i64 l.length))
  exact ⟨_, rfl, hR.set2 _ _, (h.keep hK).mono (by simp), (hb.setCell (by simpa using hg) _).setCell (by simpa using hg) _, hK, by simp, fun b t cs hne hk => (hk.other hne _).other hne _⟩

set_option maxHeartbeats 4000000 in
theorem len_any (v : Value) (l : List Int) (w : World) (hv : IsSet w w.heap.size v l) :
    Calls Try.prog 16 #[v] w fun e w' => e = .returned (.int .i64 l.length) ∧ Below w.heap.size w w' := by
  obtain ⟨p, rfl⟩ := hv.val
  clear hv
  go_enter Try.func16, Try.ntmps16
  go_wp2_with fail
  go_ret
  refine ⟨rfl, ?_⟩
  ((repeat' (first | with_reducible exact Below.refl _ _ | with_reducible apply Below.setCell | with_reducible apply below_drewN | with_reducible apply Below.drew | with_reducible apply Below.alloc | with_reducible refine Below.trans ?_ (Below.mono (by assumption) ?_))) <;> (first | (simp; done) | (simp; omega) | omega))

set_option maxHeartbeats 4000000 in
theorem set_has {v : Value} {l : List Int} {x : Int} {w : World} {b : Bool} (hv : IsSet w w.heap.size v l) (hb : b = decide (x ∈ l)) :
    Calls Try.prog 17 #[v, .int .i64 x] w fun e w' => e = .returned (.bool b) ∧ Below w.heap.size w w' := by
  obtain ⟨p, t, rfl, hn, -, hk, ha, -⟩ := hv
  have hcl := fun W (hW : Below w.heap.size w W) => has_raw (x := x) (b := b) (hn.grow hW hW.size) (by rw [hk]; exact ha) (by rw [hk]; exact hb)
  clear hn hk ha hb
  go_enter Try.func17, Try.ntmps17
  go_wp2_with (go_at_call 30; with_reducible refine (hcl _ ((Below.refl _ _).alloc (Nat.le_refl _) _)).mono ?_; clear hcl; rintro e w1 ⟨rfl, hb⟩)
  go_ret
  exact ⟨rfl, Below.trans ((Below.refl _ _).alloc (Nat.le_refl _) _) (hb.mono (by simp))⟩

set_option maxHeartbeats 8000000 in
theorem set_put {v : Value} {l : List Int} {x : Int} {w : World} (hv : IsSet w w.heap.size v l) (hx : (Lit.int .i64 x).wf = true) (hbd : l.length < 1152921504606846900) :
    Calls Try.prog 11 #[v, .int .i64 x] w fun e w' => (∃ q, e = .returned (rv q (ins x l).length) ∧ IsSet w' w'.heap.size (rv q (ins x l).length) (ins x l)) ∧ Below w.heap.size w w' := by
  have hv0 := hv
  obtain ⟨p, t, rfl, hn, hi, hk, ha, hw⟩ := hv
  obtain ⟨Wa, hW0⟩ : ∃ Wa, ((w.alloc (.cells #[.pointer p, .int .i64 l.length] tyH)).alloc (.cells #[.pointer none, .int .i64 0] tyH)) = Wa := ⟨_, rfl⟩
  have hR : hp.Blk Wa (w.heap.size + 1) tyH [.pointer none, .int .i64 0] := by
    rw [← hW0]
    exact hp.Blk.newAt (by simp)
  have hA : hp.Blk Wa w.heap.size tyH [.pointer p, .int .i64 l.length] := by
    rw [← hW0]
    exact (hp.Blk.newAt (by simp)).alloc _
  have hb0 : Below w.heap.size w Wa := by
    rw [← hW0]
    ((repeat' (first | with_reducible exact Below.refl _ _ | with_reducible apply Below.setCell | with_reducible apply below_drewN | with_reducible apply Below.drew | with_reducible apply Below.alloc | with_reducible refine Below.trans ?_ (Below.mono (by assumption) ?_))) <;> (first | (simp; done) | (simp; omega) | omega))
  have hhas := fun W (hW : Below w.heap.size w W) => set_has (x := x) (b := decide (x ∈ l)) (hv0.on hW) rfl
  have hv1 := hv0.on hb0
  by_cases hm : x ∈ l
  · have hsame : ins x l = l := ins_same ha hm
    rw [hsame]
    rw [show decide (x ∈ l) = true by simpa using hm] at hhas
    obtain ⟨c0, c1⟩ := hA.cells2
    obtain ⟨d0, d1⟩ := hR.cells2
    have f0 := hR.free 0
    have f1 := hR.free 1
    obtain ⟨N, hN⟩ : ∃ N : Int, (l.length : Int) = N := ⟨_, rfl⟩
    replace hv0 := Lib.hid hv0
    clear hn hi hk ha hw hbd hm hsame
    rw [hN] at c1 hA hW0
    simp only [rv, hN] at hhas
    rw [show rv p l.length = .agg #[.pointer p, .int .i64 N] by rw [← hN]]
    replace hN := Lib.hid hN
    have K := hb0
    go_enter Try.func11, Try.ntmps11
    go_wp2_with (go_at_call 17; with_reducible refine (hhas _ hb0).mono ?_; clear hhas; rintro e w1 ⟨rfl, hb1⟩; replace hA := hA.on hb1; replace hR := hR.on hb1; replace hv1 := hv1.on hb1; replace K := hb0.trans (hb1.mono hb0.size); clear c0 c1 d0 d1 f0 f1; obtain ⟨c0, c1⟩ := hA.cells2; obtain ⟨d0, d1⟩ := hR.cells2; have f0 := hR.free 0; have f1 := hR.free 1; clear hb1)
    obtain ⟨W9, hW9, hS, hQ, hB, -⟩ := stored (k := N) hN.out.symm hR (by omega) K hv1
    rw [hW9]
    obtain ⟨g0, g1⟩ := hS.cells2
    refine bodyPost_ret (v := rv p l.length) (by simp [results, Try.results11, go_sem, g0, g1]) rfl ⟨⟨_, rfl, hQ⟩, hB⟩
  · have hasc : Asc (keys t) := by rw [hk]; exact ha
    have hnot : x ∉ keys t := by rw [hk]; exact hm
    have hcl := fun W (hW : Below w.heap.size w W) => put_any (x := x) t p W (hn.grow hW hW.size)
    have hpa := fun W u (hu : IsT W (.pointer u) (red.put x t)) => painted_any (m := 0) hu (put_ne x t)
    rw [show decide (x ∈ l) = false by simpa using hm] at hhas
    have hlen := ins_len ha hm
    have hwr : ((l.length : Int) + 1) = ((ins x l).length : Int) := by omega
    have hkeys : keys (paint 0 (red.put x t)) = ins x l := by rw [keys_paint, put_keys hasc hnot, hk]
    have hdone : Hid (∀ W q, IsT W (.pointer q) (paint 0 (red.put x t)) → IsSet W W.heap.size (rv q (ins x l).length) (ins x l)) := Lib.hid fun W q h => isSet_of h (hi.put x) hkeys (ins_asc x ha) (ins_wf hx hw)
    obtain ⟨M, hM⟩ : ∃ M, ins x l = M := ⟨_, rfl⟩
    rw [hM] at hwr hdone hlen ⊢
    obtain ⟨N, hN⟩ : ∃ N : Int, (l.length : Int) = N := ⟨_, rfl⟩
    rw [hN] at hwr hA
    simp only [rv, hN] at hhas
    have hN2 : 0 ≤ N ∧ N < 1152921504606846900 := by omega
    replace hwr := Lib.hid hwr
    rw [hN] at hW0
    rw [show rv p l.length = .agg #[.pointer p, .int .i64 N] by rw [← hN]]
    replace hN := Lib.hid hN
    generalize hGL : red.put x t = GL at *
    generalize hGT : paint 0 GL = GT at *
    replace hGL := Lib.hid hGL
    obtain ⟨hN3, hN4⟩ := hN2
    replace hlen := Lib.hid hlen
    clear hn hi hk ha hw hbd hm hv0 hv1 hM hasc hnot hkeys hGT
    have K := hb0
    obtain ⟨c0, c1⟩ := hA.cells2
    go_enter Try.func11, Try.ntmps11
    go_wp2_with (go_at_call 17; with_reducible refine (hhas _ hb0).mono ?_; clear hhas; rintro e W0 ⟨rfl, hb1⟩; replace hA := hA.on hb1; replace hR := hR.on hb1; replace K := hb0.trans (hb1.mono hb0.size); clear c0 c1 hb1 hb0 hW0)
    have hb0 := K
    apply rel.region_tail (C := fun w' => Below W0.heap.size W0 w') (X := fun w w' => Below w.heap.size w w') 8 (by kernel_rfl) (by kernel_rfl) (by kernel_rfl) (by kernel_rfl) ((Below.refl W0.heap.size W0).drew)
    (apply rel.walk_val; (focus (intro wq hq hf; go_wp2; refine ⟨hq, Below.refl _ _, ?_, rfl⟩; (show rel.slot _ _ = _; simp only [rel.slot_lit, List.getD_cons_succ, List.getD_cons_zero]; (first | done | exact rfl)))); (simp only [rel.put_lit, List.set_cons_succ, List.set_cons_zero]))
    ((apply rel.walk_val; (focus (intro wq hq hf; (obtain ⟨d0, d1⟩ := ((hA).below hq (hA).lt).cells2); go_wp2; refine ⟨hq, Below.refl _ _, ?_, rfl⟩; (show rel.slot _ _ = _; simp only [rel.slot_lit, List.getD_cons_succ, List.getD_cons_zero]; (first | done | exact rfl)))); (simp only [rel.put_lit, List.set_cons_succ, List.set_cons_zero])))
    (apply rel.walk_val; (focus (intro wq hq hf; go_wp2; refine ⟨hq, Below.refl _ _, ?_, rfl⟩; (show rel.slot _ _ = _; simp only [rel.slot_lit, List.getD_cons_succ, List.getD_cons_zero]; (first | done | exact rfl)))); (simp only [rel.put_lit, List.set_cons_succ, List.set_cons_zero]))
    (apply rel.walk_rel (fun u w' => sch.IsT w' u (GL)) ⟨_, rfl⟩ (fun u w1 w2 h1 h2 => h2.on h1); (focus (intro wq hq hf; go_wp2_with (go_at_call 26; with_reducible refine (hcl _ (hb0.trans (hq.mono hb0.size))).mono ?_; rintro e w'' ⟨⟨u, rfl, hu⟩, hb⟩); refine ⟨hq.trans (hb.mono hq.size), hb, ?_, rfl⟩; (show sch.IsT _ (rel.slot _ _) _; simp only [rel.slot_lit, List.getD_cons_succ, List.getD_cons_zero]; exact hu))); (intro u wu _ hu; obtain ⟨py, rfl, -⟩ := hu; (simp only [rel.put_lit, List.set_cons_succ, List.set_cons_zero])))
    (apply rel.walk_rel (fun u w' => sch.IsT w' u (GT)) ⟨_, rfl⟩ (fun u w1 w2 h1 h2 => h2.on h1); (focus (intro wq hq hf; go_wp2_with (go_at_call 25; with_reducible refine (hpa _ _ (hf.get 0 rfl rfl)).mono ?_; rintro e w'' ⟨⟨u, rfl, hu⟩, hb⟩); refine ⟨hq.trans (hb.mono hq.size), hb, ?_, rfl⟩; (show sch.IsT _ (rel.slot _ _) _; simp only [rel.slot_lit, List.getD_cons_succ, List.getD_cons_zero]; exact hu))); (intro u wu _ hu; obtain ⟨pz, rfl, -⟩ := hu; (simp only [rel.put_lit, List.set_cons_succ, List.set_cons_zero])))
    (apply rel.walk_val; (focus (intro wq hq hf; go_wp2; refine ⟨hq, Below.refl _ _, ?_, rfl⟩; (show rel.slot _ _ = _; simp only [rel.slot_lit, List.getD_cons_succ, List.getD_cons_zero]; (first | done | exact rfl)))); (simp only [rel.put_lit, List.set_cons_succ, List.set_cons_zero]))
    ((apply rel.walk_val; (focus (intro wq hq hf; (obtain ⟨d0, d1⟩ := ((hA).below hq (hA).lt).cells2); go_wp2; refine ⟨hq, Below.refl _ _, ?_, rfl⟩; (show rel.slot _ _ = _; simp only [rel.slot_lit, List.getD_cons_succ, List.getD_cons_zero]; (first | done | exact rfl)))); (simp only [rel.put_lit, List.set_cons_succ, List.set_cons_zero])))
    (apply rel.walk_val; (focus (intro wq hq hf; go_wp2; refine ⟨hq, Below.refl _ _, ?_, rfl⟩; (show rel.slot _ _ = _; simp only [rel.slot_lit, List.getD_cons_succ, List.getD_cons_zero]; (first | done | exact rfl)))); (simp only [rel.put_lit, List.set_cons_succ, List.set_cons_zero]))
    refine rel.walk_nil ?_
    intro w9 K9 hF
    have hu : IsT w9 (.pointer pz) GT := hF _ (List.mem_cons_self ..)
    have hR9 := hR.on K9
    obtain ⟨d0, d1⟩ := hR9.cells2
    have f0 := hR9.free 0
    have f1 := hR9.free 1
    clear hF hcl hpa
    simp only [List.drop_succ_cons, List.drop_zero]
    go_wp2_with fail
    rw [hwr.out]
    have hu2 := hdone.out _ _ hu
    obtain ⟨W9, hW9, hS, hQ, hB, -⟩ := stored (k := (M.length : Int)) rfl hR9 (by omega) (hb0.trans (K9.mono hb0.size)) hu2
    rw [hW9]
    obtain ⟨g0, g1⟩ := hS.cells2
    refine bodyPost_ret (v := rv pz M.length) (by simp [results, Try.results11, go_sem, g0, g1]) rfl ⟨⟨_, rfl, hQ⟩, hB⟩

set_option maxHeartbeats 8000000 in
theorem set_drop {v : Value} {l : List Int} {x : Int} {w : World} (hv : IsSet w w.heap.size v l) (hx : (Lit.int .i64 x).wf = true) (hbd : l.length < 1152921504606846900) :
    Calls Try.prog 9 #[v, .int .i64 x] w fun e w' => (∃ q, e = .returned (rv q (del x l).length) ∧ IsSet w' w'.heap.size (rv q (del x l).length) (del x l)) ∧ Below w.heap.size w w' := by
  have hv0 := hv
  obtain ⟨p, t, rfl, hn, hi, hk, ha, hw⟩ := hv
  obtain ⟨Wa, hW0⟩ : ∃ Wa, ((w.alloc (.cells #[.pointer p, .int .i64 l.length] tyH)).alloc (.cells #[.pointer none, .int .i64 0] tyH)) = Wa := ⟨_, rfl⟩
  have hR : hp.Blk Wa (w.heap.size + 1) tyH [.pointer none, .int .i64 0] := by
    rw [← hW0]
    exact hp.Blk.newAt (by simp)
  have hA : hp.Blk Wa w.heap.size tyH [.pointer p, .int .i64 l.length] := by
    rw [← hW0]
    exact (hp.Blk.newAt (by simp)).alloc _
  have hb0 : Below w.heap.size w Wa := by
    rw [← hW0]
    ((repeat' (first | with_reducible exact Below.refl _ _ | with_reducible apply Below.setCell | with_reducible apply below_drewN | with_reducible apply Below.drew | with_reducible apply Below.alloc | with_reducible refine Below.trans ?_ (Below.mono (by assumption) ?_))) <;> (first | (simp; done) | (simp; omega) | omega))
  have hhas := fun W (hW : Below w.heap.size w W) => set_has (x := x) (b := decide (x ∈ l)) (hv0.on hW) rfl
  have hv1 := hv0.on hb0
  by_cases hm : x ∉ l
  · have hsame : del x l = l := del_same hm
    rw [hsame]
    rw [show decide (x ∈ l) = false by simpa using hm] at hhas
    obtain ⟨c0, c1⟩ := hA.cells2
    obtain ⟨d0, d1⟩ := hR.cells2
    have f0 := hR.free 0
    have f1 := hR.free 1
    obtain ⟨N, hN⟩ : ∃ N : Int, (l.length : Int) = N := ⟨_, rfl⟩
    replace hv0 := Lib.hid hv0
    clear hn hi hk ha hw hbd hm hsame
    rw [hN] at c1 hA hW0
    simp only [rv, hN] at hhas
    rw [show rv p l.length = .agg #[.pointer p, .int .i64 N] by rw [← hN]]
    replace hN := Lib.hid hN
    have K := hb0
    go_enter Try.func9, Try.ntmps9
    go_wp2_with (go_at_call 17; with_reducible refine (hhas _ hb0).mono ?_; clear hhas; rintro e w1 ⟨rfl, hb1⟩; replace hA := hA.on hb1; replace hR := hR.on hb1; replace hv1 := hv1.on hb1; replace K := hb0.trans (hb1.mono hb0.size); clear c0 c1 d0 d1 f0 f1; obtain ⟨c0, c1⟩ := hA.cells2; obtain ⟨d0, d1⟩ := hR.cells2; have f0 := hR.free 0; have f1 := hR.free 1; clear hb1)
    obtain ⟨W9, hW9, hS, hQ, hB, -⟩ := stored (k := N) hN.out.symm hR (by omega) K hv1
    rw [hW9]
    obtain ⟨g0, g1⟩ := hS.cells2
    refine bodyPost_ret (v := rv p l.length) (by simp [results, Try.results9, go_sem, g0, g1]) rfl ⟨⟨_, rfl, hQ⟩, hB⟩
  · have hin : x ∈ l := Classical.not_not.1 hm
    have hasc : Asc (keys t) := by rw [hk]; exact ha
    have hmem : x ∈ keys t := by rw [hk]; exact hin
    obtain ⟨nb, hrb⟩ := hi.1
    have hcl := fun W (hW : Below w.heap.size w W) => drop_any t x nb p W (hn.grow hW hW.size) hrb hasc hmem
    rw [show decide (x ∈ l) = true by simpa using hm] at hhas
    have hlen := del_len ha hin
    have hwr : ((l.length : Int) - 1) = ((del x l).length : Int) := by omega
    have hkeys : keys (red.drop t x).1 = del x l := by rw [(drop_fit hrb hasc hmem).2, hk]
    have hdone : Hid (∀ W q, IsT W (.pointer q) (red.drop t x).1 → IsSet W W.heap.size (rv q (del x l).length) (del x l)) := Lib.hid fun W q h => isSet_of h (hi.drop hasc hmem) hkeys (del_asc x ha) (del_wf hw)
    obtain ⟨M, hM⟩ : ∃ M, del x l = M := ⟨_, rfl⟩
    rw [hM] at hwr hdone hlen ⊢
    obtain ⟨N, hN⟩ : ∃ N : Int, (l.length : Int) = N := ⟨_, rfl⟩
    rw [hN] at hwr hA
    simp only [rv, hN] at hhas
    have hN2 : 0 ≤ N ∧ N < 1152921504606846900 := by omega
    have hN5 : 1 ≤ N := by omega
    replace hwr := Lib.hid hwr
    rw [hN] at hW0
    rw [show rv p l.length = .agg #[.pointer p, .int .i64 N] by rw [← hN]]
    replace hN := Lib.hid hN
    generalize hGL : red.drop t x = GL at *
    obtain ⟨GT, GB⟩ := GL
    simp only at hcl hdone
    obtain ⟨hN3, hN4⟩ := hN2
    replace hlen := Lib.hid hlen
    clear hn hi hk ha hw hbd hm hv0 hv1 hM hasc hmem hkeys hGL hin hrb
    have K := hb0
    obtain ⟨c0, c1⟩ := hA.cells2
    go_enter Try.func9, Try.ntmps9
    go_wp2_with (first
      | (go_at_call 17; (with_reducible refine (hhas _ hb0).mono ?_); clear hhas; rintro e W0 ⟨rfl, hb1⟩; replace hA := hA.on hb1; replace hR := hR.on hb1; replace K := hb0.trans (hb1.mono hb0.size); clear c0 c1 hb1 hb0 hW0; obtain ⟨c0, c1⟩ := hA.cells2)
      | (go_at_call 24; (with_reducible refine (hcl _ K).mono ?_); clear hcl; rintro e w9 ⟨⟨u, rfl, hu⟩, hb1⟩; (obtain ⟨pz, rfl, hu⟩ := hu); replace hA := hA.on hb1; replace hR := hR.on hb1; replace K := K.trans (hb1.mono K.size); clear c0 c1 hb1; obtain ⟨c0, c1⟩ := hA.cells2; obtain ⟨d0, d1⟩ := hR.cells2; have f0 := hR.free 0; have f1 := hR.free 1))
    rw [hwr.out]
    have hu2 := hdone.out _ _ hu
    obtain ⟨W9, hW9, hS, hQ, hB, -⟩ := stored (k := (M.length : Int)) rfl hR (by omega) K hu2
    rw [hW9]
    obtain ⟨g0, g1⟩ := hS.cells2
    refine bodyPost_ret (v := rv pz M.length) (by simp [results, Try.results9, go_sem, g0, g1]) rfl ⟨⟨_, rfl, hQ⟩, hB⟩

set_option maxHeartbeats 4000000 in
theorem of_any {v : Value} {l : List Int} {w : World} (hv : hp.IsInts w w.heap.size v l) (hbd : l.length ≤ 17592186044416) :
    Calls Try.prog 21 #[v] w fun e w' => (∃ q, e = .returned (rv q (uniq l).length) ∧ IsSet w' w'.heap.size (rv q (uniq l).length) (uniq l)) ∧ Below w.heap.size w w' := by
  have hwf := uniq_wf hv.wf
  have hlu := uniq_le l
  have hau := uniq_asc l
  have hb0 : Below w.heap.size w (w.alloc (.cells #[.pointer none, .int .i64 0] tyH)) := by
    ((repeat' (first | with_reducible exact Below.refl _ _ | with_reducible apply Below.setCell | with_reducible apply below_drewN | with_reducible apply Below.drew | with_reducible apply Below.alloc | with_reducible refine Below.trans ?_ (Below.mono (by assumption) ?_))) <;> (first | (simp; done) | (simp; omega) | omega))
  have hR0 : hp.Blk (w.alloc (.cells #[.pointer none, .int .i64 0] tyH)) w.heap.size tyH [.pointer none, .int .i64 0] := hp.Blk.newAt rfl
  have hdi := distinct_any (hv.on hb0) hbd
  have hof : ∀ (W : World) (u : Value) (j : Nat) (r : Int), r = (j : Int) → bts.Rows (uniq l).length j → j < 64 → hp.IsInts W W.heap.size u (uniq l) → Calls Try.prog 36 #[u, .int .i64 r] W fun e w' => (∃ u, e = .returned u ∧ IsG w' u (fun t => Ok t ∧ keys t = uniq l)) ∧ Below W.heap.size W w' := by
    rintro W u j r rfl hr hj hu
    refine (of_tree j (uniq l) u W ⟨hr.1, Nat.le_of_lt hr.2⟩ (by omega) hj hu).mono ?_
    rintro e w' ⟨⟨u, rfl, h⟩, hb⟩
    refine ⟨⟨u, rfl, h.imp fun t ht => ?_⟩, hb⟩
    obtain ⟨h1, h2, h3⟩ := ht
    refine ⟨⟨⟨j, h2⟩, ?_⟩, h1⟩
    rcases j with _ | j
    · have h4 := hr.2
      have h5 : uniq l = [] := List.eq_nil_of_length_eq_zero (by simp at h4; omega)
      rw [h5] at h1
      rw [keys_nil h1]
      simp [top]
    · exact h3 (by omega)
  have hle : (uniq l).length < 9223372036854775807 := by omega
  have hbl := fun W => bts.len_any (n := (uniq l).length) W hle
  obtain ⟨U, hU⟩ : ∃ U, uniq l = U := ⟨_, rfl⟩
  rw [hU] at hwf hlu hau hdi hof hle hbl ⊢
  obtain ⟨ad, cap, rfl, -⟩ := hv
  replace hwf := Lib.hid hwf
  replace hlu := Lib.hid hlu
  have hlu2 : U.length ≤ 17592186044416 := Nat.le_trans hlu.out hbd
  clear hU
  go_enter Try.func21, Try.ntmps21
  go_wp2_with (first
    | (go_at_call 34; (with_reducible refine hdi.mono ?_); clear hdi; rintro e w1 ⟨⟨u, rfl, hu⟩, hb1⟩; have hR := hR0.on hb1; have hb2 := hb0.trans (hb1.mono hb0.size); clear hb1 hR0 hb0; have hu1 := hu; obtain ⟨a1, c1, rfl, -⟩ := hu1)
    | (go_at_call 35; (with_reducible refine (hbl _).mono ?_); clear hbl; rintro e w2 ⟨⟨j, rfl, hrow, hj⟩, rfl⟩)
    | (go_at_call 36; (with_reducible refine (hof _ _ j _ (by omega) hrow hj hu).mono ?_); clear hof hu; rintro e w2 ⟨⟨u2, rfl, hu2⟩, hb3⟩; replace hR := hR.on hb3; replace hb2 := hb2.trans (hb3.mono hb2.size); clear hb3; have hu3 := hu2; obtain ⟨p, t, rfl, -⟩ := hu3; obtain ⟨d0, d1⟩ := hR.cells2; have f0 := hR.free 0; have f1 := hR.free 1))
  have hs : IsSet w2 w2.heap.size (rv p U.length) U := by
    obtain ⟨q, t2, he, hn, hi, hk⟩ := hu2
    cases he
    exact ⟨p, t2, rfl, hn, hi, hk, hau, hwf.out⟩
  obtain ⟨W9, hW9, hS, hQ, hB, -⟩ := stored (k := (U.length : Int)) rfl hR (Nat.le_refl _) hb2 hs
  rw [hW9]
  obtain ⟨g0, g1⟩ := hS.cells2
  refine bodyPost_ret (v := rv p U.length) (by simp [results, Try.results21, go_sem, g0, g1]) rfl ⟨⟨_, rfl, hQ⟩, hB⟩
end Go.Proofs.Yteilbdoeggbhaaa.red
