/- Package wbt: sets. -/
import Derived.Test.YtlaflhnnddfkkaaWbtOps
import Derived.Test.YtlaflhnnddfkkaaSchDist
namespace Go.Proofs.Ytlaflhnnddfkkaa.wbt
open Go Go.RowKit
open Go.Proofs.Ytlaflhnnddfkkaa.sch

abbrev tyH : TypeId := 53
abbrev rv (p : Option Addr) : Value := .agg #[.pointer p]

/-- a set of these numbers, its trees below block B -/
def IsSet (w : World) (B : Nat) (v : Value) (K : List Int) : Prop := ∃ p t, v = rv p ∧ Nod B w t p ∧ Wb t ∧ keys t = K ∧ Asc K ∧ ∀ x ∈ K, (Lit.int .i64 x).wf = true

section
variable {w w' : World} {B B' : Nat} {v : Value} {l : List Int}
theorem IsSet.below (h : IsSet w B v l) (hb : Below B w w') : IsSet w' B v l := by
  obtain ⟨p, r, hv, hc, hw⟩ := h
  exact ⟨p, r, hv, hc.below hb, hw⟩
theorem IsSet.keep (h : IsSet w B v l) (hb : Keep w w') : IsSet w' B v l := by
  obtain ⟨p, r, hv, hc, hw⟩ := h
  exact ⟨p, r, hv, hc.keep hb, hw⟩
theorem IsSet.mono (h : IsSet w B v l) (hB : B ≤ B') : IsSet w B' v l := by
  obtain ⟨p, r, hv, hc, hw⟩ := h
  exact ⟨p, r, hv, hc.mono hB, hw⟩
theorem IsSet.on (h : IsSet w w.heap.size v l) (hb : Below w.heap.size w w') : IsSet w' w'.heap.size v l := (h.below hb).mono hb.size
theorem IsSet.wf (h : IsSet w B v l) : ∀ x ∈ l, (Lit.int .i64 x).wf = true := by obtain ⟨_, _, _, _, _, _, _, hw⟩ := h; exact hw
theorem IsSet.asc (h : IsSet w B v l) : Asc l := by obtain ⟨_, _, _, _, _, _, ha, _⟩ := h; exact ha
theorem IsSet.nil (w : World) (B : Nat) : IsSet w B (rv none) [] := ⟨none, .nil, rfl, rfl, trivial, rfl, Asc.nil, by simp⟩
theorem IsSet.val (h : IsSet w B v l) : ∃ p, v = rv p := by obtain ⟨p, _, hv, _⟩ := h; exact ⟨p, hv⟩
theorem IsSet.good {p : Option Addr} (h : IsSet w w.heap.size (rv p) l) : IsG w (.pointer p) (Good l) := by
  obtain ⟨q, t, hv, hn, hi, hk, -⟩ := h
  cases hv
  exact ⟨_, t, rfl, hn, hi, hk⟩
end
theorem isSet_of {w : World} {p : Option Addr} {K : List Int} (h : IsG w (.pointer p) (Good K)) (ha : Asc K) (hw : ∀ x ∈ K, (Lit.int .i64 x).wf = true) : IsSet w w.heap.size (rv p) K := by
  obtain ⟨q, t, hu, hn, hi, hk⟩ := h
  cases hu
  exact ⟨p, t, rfl, hn, hi, hk, ha, hw⟩

/-- a set goes into a variable of the call's own -/
theorem stored {w W : World} {g : Nat} {a : Value} {p : Option Addr} {l : List Int} (hR : hp.Blk W g tyH [a]) (hg : w.heap.size ≤ g) (hb : Below w.heap.size w W) (h : IsSet W W.heap.size (rv p) l) :
    ∃ W', W.setCell ⟨g, 0, none⟩ (.pointer p) = W' ∧ hp.Blk W' g tyH [.pointer p] ∧ IsSet W' W'.heap.size (rv p) l ∧ Below w.heap.size w W' ∧ Keep W W' ∧ W'.heap.size = W.heap.size ∧ (∀ b t cs, b ≠ g → hp.Blk W b t cs → hp.Blk W' b t cs) := by
  have hK := Keep.of_set (o := 0) hR (by decide) (.pointer p)
  exact ⟨_, rfl, hR.set 0 _, (h.keep hK).mono (by simp), hb.setCell (by simpa using hg) _, hK, by simp, fun b t cs hne hk => hk.other hne _⟩

set_option maxHeartbeats 4000000 in
theorem set_has {v : Value} {l : List Int} {x : Int} {w : World} {b : Bool} (hv : IsSet w w.heap.size v l) (hb : b = decide (x ∈ l)) :
    Calls Try.prog 38 #[v, .int .i64 x] w fun e w' => e = .returned (.bool b) ∧ Below w.heap.size w w' := by
  obtain ⟨p, t, rfl, hn, -, hk, ha, -⟩ := hv
  have hcl := fun W (hW : Below w.heap.size w W) => has_raw (x := x) (b := b) (hn.grow hW hW.size) (by rw [hk]; exact ha) (by rw [hk]; exact hb)
  clear hn hk ha hb
  have hb0 := (Below.refl w.heap.size w).alloc (Nat.le_refl _) (.cells #[.pointer p] tyH)
  go_enter Try.func38, Try.ntmps38
  go_wp2_with (go_at_call 45; (with_reducible refine (hcl _ hb0).mono ?_); clear hcl; rintro e w1 ⟨rfl, hb⟩)
  go_ret
  exact ⟨rfl, hb0.trans (hb.mono hb0.size)⟩

set_option maxHeartbeats 8000000 in
theorem set_put {v : Value} {l : List Int} {x : Int} {w : World} (hv : IsSet w w.heap.size v l) (hx : (Lit.int .i64 x).wf = true) (hbd : l.length < 576460752303423400) :
    Calls Try.prog 30 #[v, .int .i64 x] w fun e w' => (∃ q, e = .returned (rv q) ∧ IsSet w' w'.heap.size (rv q) (ins x l)) ∧ Below w.heap.size w w' := by
  have hv0 := hv
  obtain ⟨p, t, rfl, hn, hi, hk, ha, hw⟩ := hv
  obtain ⟨Wa, hW0⟩ : ∃ Wa, ((w.alloc (.cells #[.pointer p] tyH)).alloc (.cells #[.pointer none] tyH)) = Wa := ⟨_, rfl⟩
  have hR : hp.Blk Wa (w.heap.size + 1) tyH [.pointer none] := by
    rw [← hW0]
    exact hp.Blk.newAt (by simp)
  have hA : hp.Blk Wa w.heap.size tyH [.pointer p] := by
    rw [← hW0]
    exact (hp.Blk.newAt (by simp)).alloc _
  have hb0 : Below w.heap.size w Wa := by
    rw [← hW0]
    ((repeat' (first | with_reducible exact Below.refl _ _ | with_reducible apply Below.setCell | with_reducible apply below_drewN | with_reducible apply Below.drew | with_reducible apply Below.alloc | with_reducible refine Below.trans ?_ (Below.mono (by assumption) ?_))) <;> (first | (simp; done) | (simp; omega) | omega))
  have hhas := fun W (hW : Below w.heap.size w W) => set_has (x := x) (b := decide (x ∈ l)) (hv0.on hW) rfl
  have hv1 := hv0.on hb0
  have c0 := hA.cell 0
  have d0 := hR.cell 0
  have f0 := hR.free 0
  have l0 := hA.lt
  have l1 := hR.lt
  simp only [List.getElem?_cons_zero] at c0 d0
  by_cases hm : x ∈ l
  · rw [show ins x l = l from ins_same ha hm]
    rw [show decide (x ∈ l) = true by simpa using hm] at hhas
    replace hv0 := Lib.hid hv0
    clear hn hi hk ha hw hbd hm
    have K := hb0
    go_enter Try.func30, Try.ntmps30
    go_wp2_with (go_at_call 38; (with_reducible refine (hhas _ hb0).mono ?_); clear hhas; rintro e w1 ⟨rfl, hb1⟩; replace hA := hA.on hb1; replace hR := hR.on hb1; replace hv1 := hv1.on hb1; replace K := hb0.trans (hb1.mono hb0.size); clear c0 d0 f0 l0 l1; have c0 := hA.cell 0; have d0 := hR.cell 0; have f0 := hR.free 0; have l0 := hA.lt; have l1 := hR.lt; simp only [List.getElem?_cons_zero] at c0 d0; clear hb1)
    obtain ⟨W9, hW9, hS, hQ, hB, -⟩ := stored hR (by omega) K hv1
    rw [hW9]
    have g0 := hS.cell 0
    simp only [List.getElem?_cons_zero] at g0
    refine bodyPost_ret (v := rv p) (by simp [results, Try.results30, go_sem, g0]) rfl ⟨⟨_, rfl, hQ⟩, hB⟩
  · have hcl := fun W (hW : Below w.heap.size w W) => put_any (x := x) t p W (hn.grow hW hW.size) hi (by rw [hk]; exact ha) (by rw [hk]; exact hm) (by unfold siz; rw [hk]; omega)
    rw [hk] at hcl
    rw [show decide (x ∈ l) = false by simpa using hm] at hhas
    have hdone : Hid (∀ W q, IsG W (.pointer q) (Good (ins x l)) → IsSet W W.heap.size (rv q) (ins x l)) := Lib.hid fun W q h => isSet_of h (ins_asc x ha) (ins_wf hx hw)
    generalize ins x l = M at *
    generalize hGL : Good M = GL at *
    replace hGL := Lib.hid hGL
    clear hn hi hk ha hw hbd hm hv0 hv1
    have K := hb0
    go_enter Try.func30, Try.ntmps30
    go_wp2_with (first
      | (go_at_call 38; (with_reducible refine (hhas _ hb0).mono ?_); clear hhas; rintro e W0 ⟨rfl, hb1⟩; replace hA := hA.on hb1; replace hR := hR.on hb1; replace K := hb0.trans (hb1.mono hb0.size); clear c0 d0 f0 l0 l1; have c0 := hA.cell 0; have d0 := hR.cell 0; have f0 := hR.free 0; have l0 := hA.lt; have l1 := hR.lt; simp only [List.getElem?_cons_zero] at c0 d0; clear hb1 hb0 hW0)
      | (go_at_call 59; (with_reducible refine (hcl _ K).mono ?_); clear hcl; rintro e W2 ⟨⟨u, rfl, hu⟩, hb1⟩; replace hR := hR.on hb1; replace K := K.trans (hb1.mono K.size); clear c0 d0 f0 l0 l1 hb1 hA; have d0 := hR.cell 0; have f0 := hR.free 0; have l1 := hR.lt; simp only [List.getElem?_cons_zero] at d0; have hu2 := hu; obtain ⟨pz, t_z, rfl, -⟩ := hu2))
    obtain ⟨W9, hW9, hS, hQ, hB, -⟩ := stored hR (by omega) K (hdone.out _ _ hu)
    rw [hW9]
    have g0 := hS.cell 0
    simp only [List.getElem?_cons_zero] at g0
    refine bodyPost_ret (v := rv pz) (by simp [results, Try.results30, go_sem, g0]) rfl ⟨⟨_, rfl, hQ⟩, hB⟩

set_option maxHeartbeats 8000000 in
theorem set_drop {v : Value} {l : List Int} {x : Int} {w : World} (hv : IsSet w w.heap.size v l) (hx : (Lit.int .i64 x).wf = true) (hbd : l.length < 576460752303423400) :
    Calls Try.prog 26 #[v, .int .i64 x] w fun e w' => (∃ q, e = .returned (rv q) ∧ IsSet w' w'.heap.size (rv q) (del x l)) ∧ Below w.heap.size w w' := by
  have hv0 := hv
  obtain ⟨p, t, rfl, hn, hi, hk, ha, hw⟩ := hv
  obtain ⟨Wa, hW0⟩ : ∃ Wa, ((w.alloc (.cells #[.pointer p] tyH)).alloc (.cells #[.pointer none] tyH)) = Wa := ⟨_, rfl⟩
  have hR : hp.Blk Wa (w.heap.size + 1) tyH [.pointer none] := by
    rw [← hW0]
    exact hp.Blk.newAt (by simp)
  have hA : hp.Blk Wa w.heap.size tyH [.pointer p] := by
    rw [← hW0]
    exact (hp.Blk.newAt (by simp)).alloc _
  have hb0 : Below w.heap.size w Wa := by
    rw [← hW0]
    ((repeat' (first | with_reducible exact Below.refl _ _ | with_reducible apply Below.setCell | with_reducible apply below_drewN | with_reducible apply Below.drew | with_reducible apply Below.alloc | with_reducible refine Below.trans ?_ (Below.mono (by assumption) ?_))) <;> (first | (simp; done) | (simp; omega) | omega))
  have hhas := fun W (hW : Below w.heap.size w W) => set_has (x := x) (b := decide (x ∈ l)) (hv0.on hW) rfl
  have hv1 := hv0.on hb0
  have c0 := hA.cell 0
  have d0 := hR.cell 0
  have f0 := hR.free 0
  have l0 := hA.lt
  have l1 := hR.lt
  simp only [List.getElem?_cons_zero] at c0 d0
  by_cases hm : x ∉ l
  · rw [show del x l = l from del_same hm]
    rw [show decide (x ∈ l) = false by simpa using hm] at hhas
    replace hv0 := Lib.hid hv0
    clear hn hi hk ha hw hbd hm
    have K := hb0
    go_enter Try.func26, Try.ntmps26
    go_wp2_with (go_at_call 38; (with_reducible refine (hhas _ hb0).mono ?_); clear hhas; rintro e w1 ⟨rfl, hb1⟩; replace hA := hA.on hb1; replace hR := hR.on hb1; replace hv1 := hv1.on hb1; replace K := hb0.trans (hb1.mono hb0.size); clear c0 d0 f0 l0 l1; have c0 := hA.cell 0; have d0 := hR.cell 0; have f0 := hR.free 0; have l0 := hA.lt; have l1 := hR.lt; simp only [List.getElem?_cons_zero] at c0 d0; clear hb1)
    obtain ⟨W9, hW9, hS, hQ, hB, -⟩ := stored hR (by omega) K hv1
    rw [hW9]
    have g0 := hS.cell 0
    simp only [List.getElem?_cons_zero] at g0
    refine bodyPost_ret (v := rv p) (by simp [results, Try.results26, go_sem, g0]) rfl ⟨⟨_, rfl, hQ⟩, hB⟩
  · have hcl := fun W (hW : Below w.heap.size w W) => drop_any t x p W (hn.grow hW hW.size) hi (by rw [hk]; exact ha) (by rw [hk]; exact Classical.not_not.1 hm) (by unfold siz; rw [hk]; omega)
    rw [hk] at hcl
    rw [show decide (x ∈ l) = true by simpa using hm] at hhas
    have hdone : Hid (∀ W q, IsG W (.pointer q) (Good (del x l)) → IsSet W W.heap.size (rv q) (del x l)) := Lib.hid fun W q h => isSet_of h (del_asc x ha) (del_wf hw)
    generalize del x l = M at *
    generalize hGL : Good M = GL at *
    replace hGL := Lib.hid hGL
    clear hn hi hk ha hw hbd hm hv0 hv1
    have K := hb0
    go_enter Try.func26, Try.ntmps26
    go_wp2_with (first
      | (go_at_call 38; (with_reducible refine (hhas _ hb0).mono ?_); clear hhas; rintro e W0 ⟨rfl, hb1⟩; replace hA := hA.on hb1; replace hR := hR.on hb1; replace K := hb0.trans (hb1.mono hb0.size); clear c0 d0 f0 l0 l1; have c0 := hA.cell 0; have d0 := hR.cell 0; have f0 := hR.free 0; have l0 := hA.lt; have l1 := hR.lt; simp only [List.getElem?_cons_zero] at c0 d0; clear hb1 hb0 hW0)
      | (go_at_call 53; (with_reducible refine (hcl _ K).mono ?_); clear hcl; rintro e W2 ⟨⟨u, rfl, hu⟩, hb1⟩; replace hR := hR.on hb1; replace K := K.trans (hb1.mono K.size); clear c0 d0 f0 l0 l1 hb1 hA; have d0 := hR.cell 0; have f0 := hR.free 0; have l1 := hR.lt; simp only [List.getElem?_cons_zero] at d0; have hu2 := hu; obtain ⟨pz, t_z, rfl, -⟩ := hu2))
    obtain ⟨W9, hW9, hS, hQ, hB, -⟩ := stored hR (by omega) K (hdone.out _ _ hu)
    rw [hW9]
    have g0 := hS.cell 0
    simp only [List.getElem?_cons_zero] at g0
    refine bodyPost_ret (v := rv pz) (by simp [results, Try.results26, go_sem, g0]) rfl ⟨⟨_, rfl, hQ⟩, hB⟩

end Go.Proofs.Ytlaflhnnddfkkaa.wbt
