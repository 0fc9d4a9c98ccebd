/- Package red: a tree of a list; sets. -/
import Derived.Test.YtlaflhnnddfkkaaRedOps
import Derived.Test.YtlaflhnnddfkkaaSchDist
import Derived.Test.YtlaflhnnddfkkaaInts
namespace Go.Proofs.Ytlaflhnnddfkkaa.red
open Go Go.RowKit
open Go.Proofs.Ytlaflhnnddfkkaa.sch

abbrev tyH : TypeId := 51

/-- so many numbers fill k rows; what remains is one row at most -/
def Fill (n k : Nat) : Prop := 2 ^ k ≤ n + 1 ∧ n + 1 ≤ 2 ^ (k + 1)
theorem Fill.halves {n k : Nat} (h : Fill n (k + 1)) : Fill (n / 2) k ∧ Fill (n - (n / 2 + 1)) k ∧ 1 ≤ n := by
  obtain ⟨h1, h2⟩ := h
  have h3 : 1 ≤ 2 ^ k := Nat.one_le_two_pow
  rw [Nat.pow_succ, Nat.pow_succ] at h2
  rw [Nat.pow_succ] at h1
  unfold Fill
  rw [Nat.pow_succ]
  omega
theorem Fill.zero {n : Nat} (h : Fill n 0) : n ≤ 1 := by
  have h2 := h.2
  simp at h2
  omega

/-- a tree of this list with k black ones on each way -/
def Made (l : List Int) (k : Nat) (t : Tr) : Prop := keys t = l ∧ Rb t k ∧ (k ≠ 0 → top t ≠ 1)
theorem made_nil : Made [] 0 .nil := ⟨rfl, rfl, fun _ => by simp [top]⟩
theorem over_made {x : Int} {a b : List Int} {k : Nat} {p q : Option Addr} {w : World} (ha : IsG w (.pointer p) (Made a k)) (hb : IsG w (.pointer q) (Made b k)) :
    Calls Try.prog 86 #[.int .i64 0, .int .i64 x, .pointer p, .pointer q] w fun e w' => (∃ u, e = .returned u ∧ IsG w' u (Made (a ++ x :: b) (k + 1))) ∧ Below w.heap.size w w' := by
  obtain ⟨_, s, he, hn, hk, hr, -⟩ := ha
  obtain ⟨_, t, he2, hn2, hk2, hr2, -⟩ := hb
  cases he
  cases he2
  refine (over_any (m := 0) (x := x) hn.t hn2.t).mono ?_
  rintro e w' ⟨⟨u, rfl, h⟩, hb⟩
  exact ⟨⟨u, rfl, h.g ⟨by simp only [keys]; rw [hk, hk2], hr.black hr2, fun _ => by simp [top]⟩⟩, hb⟩
theorem keys_nil {t : Tr} (h : keys t = []) : t = .nil := by
  rcases t with _ | ⟨x, m, l, r⟩
  · rfl
  · simp [keys] at h
theorem over_leaf {x : Int} {p q : Option Addr} {w : World} (ha : IsG w (.pointer p) (Made [] 0)) (hb : IsG w (.pointer q) (Made [] 0)) :
    Calls Try.prog 86 #[.int .i64 1, .int .i64 x, .pointer p, .pointer q] w fun e w' => (∃ u, e = .returned u ∧ IsG w' u (Made [x] 0)) ∧ Below w.heap.size w w' := by
  obtain ⟨_, s, he, hn, hk, hr, -⟩ := ha
  obtain ⟨_, t, he2, hn2, hk2, hr2, -⟩ := hb
  cases he
  cases he2
  obtain rfl := keys_nil hk
  obtain rfl := keys_nil hk2
  refine (over_any (m := 1) (x := x) hn.t hn2.t).mono ?_
  rintro e w' ⟨⟨u, rfl, h⟩, hb⟩
  exact ⟨⟨u, rfl, h.g ⟨rfl, hr.red hr2 (by simp [top]) (by simp [top]), fun h => absurd rfl h⟩⟩, hb⟩

/-- a set of these numbers, its trees below block B -/
def IsSet (w : World) (B : Nat) (v : Value) (K : List Int) : Prop := ∃ p t, v = rv p K.length ∧ Nod B w t p ∧ Ok t ∧ keys t = K ∧ Asc K ∧ ∀ x ∈ K, (Lit.int .i64 x).wf = true

section
variable {w w' : World} {B B' : Nat} {v : Value} {l : List Int}
theorem IsSet.below (h : IsSet w B v l) (hb : Below B w w') : IsSet w' B v l := by
  obtain ⟨p, r, hv, hc, hw⟩ := h
  exact ⟨p, r, hv, hc.below hb, hw⟩
theorem IsSet.keep (h : IsSet w B v l) (hb : Keep w w') : IsSet w' B v l := by
  obtain ⟨p, r, hv, hc, hw⟩ := h
  exact ⟨p, r, hv, hc.keep hb, hw⟩
theorem IsSet.mono (h : IsSet w B v l) (hB : B ≤ B') : IsSet w B' v l := by
  obtain ⟨p, r, hv, hc, hw⟩ := h
  exact ⟨p, r, hv, hc.mono hB, hw⟩
theorem IsSet.on (h : IsSet w w.heap.size v l) (hb : Below w.heap.size w w') : IsSet w' w'.heap.size v l := (h.below hb).mono hb.size
theorem IsSet.wf (h : IsSet w B v l) : ∀ x ∈ l, (Lit.int .i64 x).wf = true := by obtain ⟨_, _, _, _, _, _, _, hw⟩ := h; exact hw
theorem IsSet.asc (h : IsSet w B v l) : Asc l := by obtain ⟨_, _, _, _, _, _, ha, _⟩ := h; exact ha
theorem IsSet.nil (w : World) (B : Nat) : IsSet w B (rv none 0) [] := ⟨none, .nil, rfl, rfl, Ok.nil, rfl, Asc.nil, by simp⟩
theorem IsSet.val (h : IsSet w B v l) : ∃ p, v = rv p l.length := by obtain ⟨p, _, hv, _⟩ := h; exact ⟨p, hv⟩
end
theorem isSet_of {w : World} {p : Option Addr} {t : Tr} {K : List Int} (h : IsT w (.pointer p) t) (ho : Ok t) (hk : keys t = K) (ha : Asc K) (hw : ∀ x ∈ K, (Lit.int .i64 x).wf = true) : IsSet w w.heap.size (rv p K.length) K :=
  ⟨p, t, rfl, h.nod, ho, hk, ha, hw⟩

/-- a set goes into a variable of the call's own -/
theorem stored {w W : World} {g : Nat} {a b : Value} {p : Option Addr} {l : List Int} {k : Int} (hk : k = (l.length : Int)) (hR : hp.Blk W g tyH [a, b]) (hg : w.heap.size ≤ g) (hb : Below w.heap.size w W) (h : IsSet W W.heap.size (rv p l.length) l) :
    ∃ W', (W.setCell ⟨g, 0, none⟩ (.pointer p)).setCell ⟨g, 1, none⟩ (.int .i64 k) = W' ∧ hp.Blk W' g tyH [.pointer p, .int .i64 l.length] ∧ IsSet W' W'.heap.size (rv p l.length) l ∧ Below w.heap.size w W' ∧ Keep W W' ∧ W'.heap.size = W.heap.size ∧ (∀ b t cs, b ≠ g → hp.Blk W b t cs → hp.Blk W' b t cs) := by
  subst hk
  have hK := (Keep.of_set (o := 0) hR (by decide) (.pointer p)).trans (Keep.of_set (o := 1) (hR.set 0 (.pointer p)) (by decide) (.int .i64 l.length))
  exact ⟨_, rfl, hR.set2 _ _, (h.keep hK).mono (by simp), (hb.setCell (by simpa using hg) _).setCell (by simpa using hg) _, hK, by simp, fun b t cs hne hk => (hk.other hne _).other hne _⟩

set_option maxHeartbeats 4000000 in
theorem set_has {v : Value} {l : List Int} {x : Int} {w : World} {b : Bool} (hv : IsSet w w.heap.size v l) (hb : b = decide (x ∈ l)) :
    Calls Try.prog 37 #[v, .int .i64 x] w fun e w' => e = .returned (.bool b) ∧ Below w.heap.size w w' := by
  obtain ⟨p, t, rfl, hn, -, hk, ha, -⟩ := hv
  have hcl := fun W (hW : Below w.heap.size w W) => has_raw (x := x) (b := b) (hn.grow hW hW.size) (by rw [hk]; exact ha) (by rw [hk]; exact hb)
  clear hn hk ha hb
  go_enter Try.func37, Try.ntmps37
  go_wp2_with (go_at_call 45; with_reducible refine (hcl _ ((Below.refl _ _).alloc (Nat.le_refl _) _)).mono ?_; clear hcl; rintro e w1 ⟨rfl, hb⟩)
  go_ret
  exact ⟨rfl, Below.trans ((Below.refl _ _).alloc (Nat.le_refl _) _) (hb.mono (by simp))⟩

set_option maxHeartbeats 8000000 in
theorem set_put {v : Value} {l : List Int} {x : Int} {w : World} (hv : IsSet w w.heap.size v l) (hx : (Lit.int .i64 x).wf = true) (hbd : l.length < 1152921504606846900) :
    Calls Try.prog 29 #[v, .int .i64 x] w fun e w' => (∃ q, e = .returned (rv q (ins x l).length) ∧ IsSet w' w'.heap.size (rv q (ins x l).length) (ins x l)) ∧ Below w.heap.size w w' := by
  have hv0 := hv
  obtain ⟨p, t, rfl, hn, hi, hk, ha, hw⟩ := hv
  obtain ⟨Wa, hW0⟩ : ∃ Wa, ((w.alloc (.cells #[.pointer p, .int .i64 l.length] tyH)).alloc (.cells #[.pointer none, .int .i64 0] tyH)) = Wa := ⟨_, rfl⟩
  have hR : hp.Blk Wa (w.heap.size + 1) tyH [.pointer none, .int .i64 0] := by
    rw [← hW0]
    exact hp.Blk.newAt (by simp)
  have hA : hp.Blk Wa w.heap.size tyH [.pointer p, .int .i64 l.length] := by
    rw [← hW0]
    exact (hp.Blk.newAt (by simp)).alloc _
  have hb0 : Below w.heap.size w Wa := by
    rw [← hW0]
    ((repeat' (first | with_reducible exact Below.refl _ _ | with_reducible apply Below.setCell | with_reducible apply below_drewN | with_reducible apply Below.drew | with_reducible apply Below.alloc | with_reducible refine Below.trans ?_ (Below.mono (by assumption) ?_))) <;> (first | (simp; done) | (simp; omega) | omega))
  have hhas := fun W (hW : Below w.heap.size w W) => set_has (x := x) (b := decide (x ∈ l)) (hv0.on hW) rfl
  have hv1 := hv0.on hb0
  by_cases hm : x ∈ l
  · have hsame : ins x l = l := ins_same ha hm
    rw [hsame]
    rw [show decide (x ∈ l) = true by simpa using hm] at hhas
    obtain ⟨c0, c1⟩ := hA.cells2
    obtain ⟨d0, d1⟩ := hR.cells2
    have f0 := hR.free 0
    have f1 := hR.free 1
    obtain ⟨N, hN⟩ : ∃ N : Int, (l.length : Int) = N := ⟨_, rfl⟩
    replace hv0 := Lib.hid hv0
    clear hn hi hk ha hw hbd hm hsame
    rw [hN] at c1 hA hW0
    simp only [rv, hN] at hhas
    rw [show rv p l.length = .agg #[.pointer p, .int .i64 N] by rw [← hN]]
    replace hN := Lib.hid hN
    have K := hb0
    go_enter Try.func29, Try.ntmps29
    go_wp2_with (go_at_call 37; with_reducible refine (hhas _ hb0).mono ?_; clear hhas; rintro e w1 ⟨rfl, hb1⟩; replace hA := hA.on hb1; replace hR := hR.on hb1; replace hv1 := hv1.on hb1; replace K := hb0.trans (hb1.mono hb0.size); clear c0 c1 d0 d1 f0 f1; obtain ⟨c0, c1⟩ := hA.cells2; obtain ⟨d0, d1⟩ := hR.cells2; have f0 := hR.free 0; have f1 := hR.free 1; clear hb1)
    obtain ⟨W9, hW9, hS, hQ, hB, -⟩ := stored (k := N) hN.out.symm hR (by omega) K hv1
    rw [hW9]
    obtain ⟨g0, g1⟩ := hS.cells2
    refine bodyPost_ret (v := rv p l.length) (by simp [results, Try.results29, go_sem, g0, g1]) rfl ⟨⟨_, rfl, hQ⟩, hB⟩
  · have hasc : Asc (keys t) := by rw [hk]; exact ha
    have hnot : x ∉ keys t := by rw [hk]; exact hm
    have hcl := fun W (hW : Below w.heap.size w W) => put_any (x := x) t p W (hn.grow hW hW.size)
    have hpa := fun W u (hu : IsT W (.pointer u) (red.put x t)) => painted_any (m := 0) hu (put_ne x t)
    rw [show decide (x ∈ l) = false by simpa using hm] at hhas
    have hlen := ins_len ha hm
    have hwr : ((l.length : Int) + 1) = ((ins x l).length : Int) := by omega
    have hkeys : keys (paint 0 (red.put x t)) = ins x l := by rw [keys_paint, put_keys hasc hnot, hk]
    have hdone : Hid (∀ W q, IsT W (.pointer q) (paint 0 (red.put x t)) → IsSet W W.heap.size (rv q (ins x l).length) (ins x l)) := Lib.hid fun W q h => isSet_of h (hi.put x) hkeys (ins_asc x ha) (ins_wf hx hw)
    obtain ⟨M, hM⟩ : ∃ M, ins x l = M := ⟨_, rfl⟩
    rw [hM] at hwr hdone hlen ⊢
    obtain ⟨N, hN⟩ : ∃ N : Int, (l.length : Int) = N := ⟨_, rfl⟩
    rw [hN] at hwr hA
    simp only [rv, hN] at hhas
    have hN2 : 0 ≤ N ∧ N < 1152921504606846900 := by omega
    replace hwr := Lib.hid hwr
    rw [hN] at hW0
    rw [show rv p l.length = .agg #[.pointer p, .int .i64 N] by rw [← hN]]
    replace hN := Lib.hid hN
    generalize hGL : red.put x t = GL at *
    generalize hGT : paint 0 GL = GT at *
    replace hGL := Lib.hid hGL
    obtain ⟨hN3, hN4⟩ := hN2
    replace hlen := Lib.hid hlen
    clear hn hi hk ha hw hbd hm hv0 hv1 hM hasc hnot hkeys hGT
    have K := hb0
    obtain ⟨c0, c1⟩ := hA.cells2
    go_enter Try.func29, Try.ntmps29
    go_wp2_with (go_at_call 37; with_reducible refine (hhas _ hb0).mono ?_; clear hhas; rintro e W0 ⟨rfl, hb1⟩; replace hA := hA.on hb1; replace hR := hR.on hb1; replace K := hb0.trans (hb1.mono hb0.size); clear c0 c1 hb1 hb0 hW0)
    have hb0 := K
    apply rel.region_tail (C := fun w' => Below W0.heap.size W0 w') (X := fun w w' => Below w.heap.size w w') 8 (by kernel_rfl) (by kernel_rfl) (by kernel_rfl) (by kernel_rfl) ((Below.refl W0.heap.size W0).drew)
    (apply rel.walk_val; (focus (intro wq hq hf; go_wp2; refine ⟨hq, Below.refl _ _, ?_, rfl⟩; (show rel.slot _ _ = _; simp only [rel.slot_lit, List.getD_cons_succ, List.getD_cons_zero]; (first | done | exact rfl)))); (simp only [rel.put_lit, List.set_cons_succ, List.set_cons_zero]))
    ((apply rel.walk_val; (focus (intro wq hq hf; (obtain ⟨d0, d1⟩ := ((hA).below hq (hA).lt).cells2); go_wp2; refine ⟨hq, Below.refl _ _, ?_, rfl⟩; (show rel.slot _ _ = _; simp only [rel.slot_lit, List.getD_cons_succ, List.getD_cons_zero]; (first | done | exact rfl)))); (simp only [rel.put_lit, List.set_cons_succ, List.set_cons_zero])))
    (apply rel.walk_val; (focus (intro wq hq hf; go_wp2; refine ⟨hq, Below.refl _ _, ?_, rfl⟩; (show rel.slot _ _ = _; simp only [rel.slot_lit, List.getD_cons_succ, List.getD_cons_zero]; (first | done | exact rfl)))); (simp only [rel.put_lit, List.set_cons_succ, List.set_cons_zero]))
    (apply rel.walk_rel (fun u w' => sch.IsT w' u (GL)) ⟨_, rfl⟩ (fun u w1 w2 h1 h2 => h2.on h1); (focus (intro wq hq hf; go_wp2_with (go_at_call 61; with_reducible refine (hcl _ (hb0.trans (hq.mono hb0.size))).mono ?_; rintro e w'' ⟨⟨u, rfl, hu⟩, hb⟩); refine ⟨hq.trans (hb.mono hq.size), hb, ?_, rfl⟩; (show sch.IsT _ (rel.slot _ _) _; simp only [rel.slot_lit, List.getD_cons_succ, List.getD_cons_zero]; exact hu))); (intro u wu _ hu; obtain ⟨py, rfl, -⟩ := hu; (simp only [rel.put_lit, List.set_cons_succ, List.set_cons_zero])))
    (apply rel.walk_rel (fun u w' => sch.IsT w' u (GT)) ⟨_, rfl⟩ (fun u w1 w2 h1 h2 => h2.on h1); (focus (intro wq hq hf; go_wp2_with (go_at_call 60; with_reducible refine (hpa _ _ (hf.get 0 rfl rfl)).mono ?_; rintro e w'' ⟨⟨u, rfl, hu⟩, hb⟩); refine ⟨hq.trans (hb.mono hq.size), hb, ?_, rfl⟩; (show sch.IsT _ (rel.slot _ _) _; simp only [rel.slot_lit, List.getD_cons_succ, List.getD_cons_zero]; exact hu))); (intro u wu _ hu; obtain ⟨pz, rfl, -⟩ := hu; (simp only [rel.put_lit, List.set_cons_succ, List.set_cons_zero])))
    (apply rel.walk_val; (focus (intro wq hq hf; go_wp2; refine ⟨hq, Below.refl _ _, ?_, rfl⟩; (show rel.slot _ _ = _; simp only [rel.slot_lit, List.getD_cons_succ, List.getD_cons_zero]; (first | done | exact rfl)))); (simp only [rel.put_lit, List.set_cons_succ, List.set_cons_zero]))
    ((apply rel.walk_val; (focus (intro wq hq hf; (obtain ⟨d0, d1⟩ := ((hA).below hq (hA).lt).cells2); go_wp2; refine ⟨hq, Below.refl _ _, ?_, rfl⟩; (show rel.slot _ _ = _; simp only [rel.slot_lit, List.getD_cons_succ, List.getD_cons_zero]; (first | done | exact rfl)))); (simp only [rel.put_lit, List.set_cons_succ, List.set_cons_zero])))
    (apply rel.walk_val; (focus (intro wq hq hf; go_wp2; refine ⟨hq, Below.refl _ _, ?_, rfl⟩; (show rel.slot _ _ = _; simp only [rel.slot_lit, List.getD_cons_succ, List.getD_cons_zero]; (first | done | exact rfl)))); (simp only [rel.put_lit, List.set_cons_succ, List.set_cons_zero]))
    refine rel.walk_nil ?_
    intro w9 K9 hF
    have hu : IsT w9 (.pointer pz) GT := hF _ (List.mem_cons_self ..)
    have hR9 := hR.on K9
    obtain ⟨d0, d1⟩ := hR9.cells2
    have f0 := hR9.free 0
    have f1 := hR9.free 1
    clear hF hcl hpa
    simp only [List.drop_succ_cons, List.drop_zero]
    go_wp2_with fail
    rw [hwr.out]
    have hu2 := hdone.out _ _ hu
    obtain ⟨W9, hW9, hS, hQ, hB, -⟩ := stored (k := (M.length : Int)) rfl hR9 (by omega) (hb0.trans (K9.mono hb0.size)) hu2
    rw [hW9]
    obtain ⟨g0, g1⟩ := hS.cells2
    refine bodyPost_ret (v := rv pz M.length) (by simp [results, Try.results29, go_sem, g0, g1]) rfl ⟨⟨_, rfl, hQ⟩, hB⟩

set_option maxHeartbeats 8000000 in
theorem set_drop {v : Value} {l : List Int} {x : Int} {w : World} (hv : IsSet w w.heap.size v l) (hx : (Lit.int .i64 x).wf = true) (hbd : l.length < 1152921504606846900) :
    Calls Try.prog 25 #[v, .int .i64 x] w fun e w' => (∃ q, e = .returned (rv q (del x l).length) ∧ IsSet w' w'.heap.size (rv q (del x l).length) (del x l)) ∧ Below w.heap.size w w' := by
  have hv0 := hv
  obtain ⟨p, t, rfl, hn, hi, hk, ha, hw⟩ := hv
  obtain ⟨Wa, hW0⟩ : ∃ Wa, ((w.alloc (.cells #[.pointer p, .int .i64 l.length] tyH)).alloc (.cells #[.pointer none, .int .i64 0] tyH)) = Wa := ⟨_, rfl⟩
  have hR : hp.Blk Wa (w.heap.size + 1) tyH [.pointer none, .int .i64 0] := by
    rw [← hW0]
    exact hp.Blk.newAt (by simp)
  have hA : hp.Blk Wa w.heap.size tyH [.pointer p, .int .i64 l.length] := by
    rw [← hW0]
    exact (hp.Blk.newAt (by simp)).alloc _
  have hb0 : Below w.heap.size w Wa := by
    rw [← hW0]
    ((repeat' (first | with_reducible exact Below.refl _ _ | with_reducible apply Below.setCell | with_reducible apply below_drewN | with_reducible apply Below.drew | with_reducible apply Below.alloc | with_reducible refine Below.trans ?_ (Below.mono (by assumption) ?_))) <;> (first | (simp; done) | (simp; omega) | omega))
  have hhas := fun W (hW : Below w.heap.size w W) => set_has (x := x) (b := decide (x ∈ l)) (hv0.on hW) rfl
  have hv1 := hv0.on hb0
  by_cases hm : x ∉ l
  · have hsame : del x l = l := del_same hm
    rw [hsame]
    rw [show decide (x ∈ l) = false by simpa using hm] at hhas
    obtain ⟨c0, c1⟩ := hA.cells2
    obtain ⟨d0, d1⟩ := hR.cells2
    have f0 := hR.free 0
    have f1 := hR.free 1
    obtain ⟨N, hN⟩ : ∃ N : Int, (l.length : Int) = N := ⟨_, rfl⟩
    replace hv0 := Lib.hid hv0
    clear hn hi hk ha hw hbd hm hsame
    rw [hN] at c1 hA hW0
    simp only [rv, hN] at hhas
    rw [show rv p l.length = .agg #[.pointer p, .int .i64 N] by rw [← hN]]
    replace hN := Lib.hid hN
    have K := hb0
    go_enter Try.func25, Try.ntmps25
    go_wp2_with (go_at_call 37; with_reducible refine (hhas _ hb0).mono ?_; clear hhas; rintro e w1 ⟨rfl, hb1⟩; replace hA := hA.on hb1; replace hR := hR.on hb1; replace hv1 := hv1.on hb1; replace K := hb0.trans (hb1.mono hb0.size); clear c0 c1 d0 d1 f0 f1; obtain ⟨c0, c1⟩ := hA.cells2; obtain ⟨d0, d1⟩ := hR.cells2; have f0 := hR.free 0; have f1 := hR.free 1; clear hb1)
    obtain ⟨W9, hW9, hS, hQ, hB, -⟩ := stored (k := N) hN.out.symm hR (by omega) K hv1
    rw [hW9]
    obtain ⟨g0, g1⟩ := hS.cells2
    refine bodyPost_ret (v := rv p l.length) (by simp [results, Try.results25, go_sem, g0, g1]) rfl ⟨⟨_, rfl, hQ⟩, hB⟩
  · have hin : x ∈ l := Classical.not_not.1 hm
    have hasc : Asc (keys t) := by rw [hk]; exact ha
    have hmem : x ∈ keys t := by rw [hk]; exact hin
    obtain ⟨nb, hrb⟩ := hi.1
    have hcl := fun W (hW : Below w.heap.size w W) => drop_any t x nb p W (hn.grow hW hW.size) hrb hasc hmem
    rw [show decide (x ∈ l) = true by simpa using hm] at hhas
    have hlen := del_len ha hin
    have hwr : ((l.length : Int) - 1) = ((del x l).length : Int) := by omega
    have hkeys : keys (red.drop t x).1 = del x l := by rw [(drop_fit hrb hasc hmem).2, hk]
    have hdone : Hid (∀ W q, IsT W (.pointer q) (red.drop t x).1 → IsSet W W.heap.size (rv q (del x l).length) (del x l)) := Lib.hid fun W q h => isSet_of h (hi.drop hasc hmem) hkeys (del_asc x ha) (del_wf hw)
    obtain ⟨M, hM⟩ : ∃ M, del x l = M := ⟨_, rfl⟩
    rw [hM] at hwr hdone hlen ⊢
    obtain ⟨N, hN⟩ : ∃ N : Int, (l.length : Int) = N := ⟨_, rfl⟩
    rw [hN] at hwr hA
    simp only [rv, hN] at hhas
    have hN2 : 0 ≤ N ∧ N < 1152921504606846900 := by omega
    have hN5 : 1 ≤ N := by omega
    replace hwr := Lib.hid hwr
    rw [hN] at hW0
    rw [show rv p l.length = .agg #[.pointer p, .int .i64 N] by rw [← hN]]
    replace hN := Lib.hid hN
    generalize hGL : red.drop t x = GL at *
    obtain ⟨GT, GB⟩ := GL
    simp only at hcl hdone
    obtain ⟨hN3, hN4⟩ := hN2
    replace hlen := Lib.hid hlen
    clear hn hi hk ha hw hbd hm hv0 hv1 hM hasc hmem hkeys hGL hin hrb
    have K := hb0
    obtain ⟨c0, c1⟩ := hA.cells2
    go_enter Try.func25, Try.ntmps25
    go_wp2_with (first
      | (go_at_call 37; (with_reducible refine (hhas _ hb0).mono ?_); clear hhas; rintro e W0 ⟨rfl, hb1⟩; replace hA := hA.on hb1; replace hR := hR.on hb1; replace K := hb0.trans (hb1.mono hb0.size); clear c0 c1 hb1 hb0 hW0; obtain ⟨c0, c1⟩ := hA.cells2)
      | (go_at_call 55; (with_reducible refine (hcl _ K).mono ?_); clear hcl; rintro e w9 ⟨⟨u, rfl, hu⟩, hb1⟩; (obtain ⟨pz, rfl, hu⟩ := hu); replace hA := hA.on hb1; replace hR := hR.on hb1; replace K := K.trans (hb1.mono K.size); clear c0 c1 hb1; obtain ⟨c0, c1⟩ := hA.cells2; obtain ⟨d0, d1⟩ := hR.cells2; have f0 := hR.free 0; have f1 := hR.free 1))
    rw [hwr.out]
    have hu2 := hdone.out _ _ hu
    obtain ⟨W9, hW9, hS, hQ, hB, -⟩ := stored (k := (M.length : Int)) rfl hR (by omega) K hu2
    rw [hW9]
    obtain ⟨g0, g1⟩ := hS.cells2
    refine bodyPost_ret (v := rv pz M.length) (by simp [results, Try.results25, go_sem, g0, g1]) rfl ⟨⟨_, rfl, hQ⟩, hB⟩

end Go.Proofs.Ytlaflhnnddfkkaa.red
