/- Package finger: the question that Split asks. -/
import Derived.Test.YteolbbdokhmjgaaFinTree
import Derived.Test.YteolbbdokhmjgaaFinSplit
namespace Go.Proofs.Yteolbbdokhmjgaa.fin
open Go Go.RowKit Go.Proofs.Yteolbbdokhmjgaa.mono

/-- the question of FingerDigits -/
abbrev qD (b : Nat) : Value := .func (.func 22) #[] #[.pointer (some ⟨b, 0, none⟩)]
abbrev moreThan (n : Int) (l : List Int) : Bool := decide (n < (l.length : Int))
set_option maxRecDepth 100000 in
theorem askD0 (n : Int) (b : Nat) (l : List Int) (W : World) (hb : b < W.heap.size) (hc : W.cell? ⟨b, 0, none⟩ = some (.int .i64 n)) :
    Calls Try.prog 22 #[mvOf l.length l, .pointer (some ⟨b, 0, none⟩)] W fun e w' => e = .returned (.bool (moreThan n l)) ∧ Below W.heap.size W w' := by
  go_enter Try.func22, Try.ntmps22
  go_wp2_with fail
  go_ret
  exact ⟨rfl, by ((repeat' (first | with_reducible exact Below.refl _ _ | with_reducible apply Below.setCell | with_reducible apply below_drewN | with_reducible apply Below.drew | with_reducible apply Below.alloc | with_reducible refine Below.trans ?_ (Below.mono (by assumption) ?_))) <;> (first | (simp; done) | (simp; omega) | omega))⟩
set_option maxRecDepth 100000 in
theorem askD (n : Int) (b bq N : Nat) (w : World) (hb : b < w.heap.size) (hc : w.cell? ⟨b, 0, none⟩ = some (.int .i64 n)) (hq : bq < w.heap.size) (hp : w.cell? ⟨bq, 0, none⟩ = some (qD b)) : Asks w bq N (moreThan n) := by
  intro W l K _
  have kp := (K.cell (p := ⟨bq, 0, none⟩) hq).trans hp
  have kc := (K.cell (p := ⟨b, 0, none⟩) hb).trans hc
  have lq : bq < W.heap.size := by have := K.size; omega
  have lb : b < W.heap.size := by have := K.size; omega
  have H := fun V (K : Below W.heap.size W V) => askD0 n b l V (by have := K.size; omega) ((K.cell (p := ⟨b, 0, none⟩) lb).trans kc)
  clear K hp hc hq hb
  go_enter Try.func36, Try.ntmps36
  go_wp2_with (go_at_call 22; (with_reducible refine (H _ (by ((repeat' (first | with_reducible exact Below.refl _ _ | with_reducible apply Below.setCell | with_reducible apply below_drewN | with_reducible apply Below.drew | with_reducible apply Below.alloc | with_reducible refine Below.trans ?_ (Below.mono (by assumption) ?_))) <;> (first | (simp; done) | (simp; omega) | omega)))).mono ?_); rintro e w3 ⟨rfl, hb3⟩)
  go_ret
  exact ⟨rfl, (show Below W.heap.size W _ by ((repeat' (first | with_reducible exact Below.refl _ _ | with_reducible apply Below.setCell | with_reducible apply below_drewN | with_reducible apply Below.drew | with_reducible apply Below.alloc | with_reducible refine Below.trans ?_ (Below.mono (by assumption) ?_))) <;> (first | (simp; done) | (simp; omega) | omega))).trans (hb3.mono (by simp))⟩

/-- the question of FingerSplits -/
abbrev qS (bm b : Nat) : Value := .func (.func 25) #[] #[.pointer (some ⟨bm, 0, none⟩), .pointer (some ⟨b, 0, none⟩)]
def soFar (most : Bool) (n : Int) (l : List Int) : Bool := if most = true then decide (0 < (l.length : Int)) && decide (n ≤ mstOf l) else decide (n < (l.length : Int))
set_option maxRecDepth 100000 in
theorem askS0 (most : Bool) (n : Int) (bm b : Nat) (l : List Int) (W : World) (hm : bm < W.heap.size) (cm : W.cell? ⟨bm, 0, none⟩ = some (.bool most)) (hb : b < W.heap.size) (hc : W.cell? ⟨b, 0, none⟩ = some (.int .i64 n)) :
    Calls Try.prog 25 #[mvOf l.length l, .pointer (some ⟨bm, 0, none⟩), .pointer (some ⟨b, 0, none⟩)] W fun e w' => e = .returned (.bool (soFar most n l)) ∧ Below W.heap.size W w' := by
  cases most
  · go_enter Try.func25, Try.ntmps25
    go_wp2_with fail
    go_ret
    exact ⟨by simp [soFar], by ((repeat' (first | with_reducible exact Below.refl _ _ | with_reducible apply Below.setCell | with_reducible apply below_drewN | with_reducible apply Below.drew | with_reducible apply Below.alloc | with_reducible refine Below.trans ?_ (Below.mono (by assumption) ?_))) <;> (first | (simp; done) | (simp; omega) | omega))⟩
  · by_cases h0 : 0 < (l.length : Int)
    · go_enter Try.func25, Try.ntmps25
      go_wp2_with fail
      go_ret
      exact ⟨by simp [soFar]; omega, by ((repeat' (first | with_reducible exact Below.refl _ _ | with_reducible apply Below.setCell | with_reducible apply below_drewN | with_reducible apply Below.drew | with_reducible apply Below.alloc | with_reducible refine Below.trans ?_ (Below.mono (by assumption) ?_))) <;> (first | (simp; done) | (simp; omega) | omega))⟩
    · go_enter Try.func25, Try.ntmps25
      go_wp2_with fail
      go_ret
      exact ⟨by simp [soFar]; omega, by ((repeat' (first | with_reducible exact Below.refl _ _ | with_reducible apply Below.setCell | with_reducible apply below_drewN | with_reducible apply Below.drew | with_reducible apply Below.alloc | with_reducible refine Below.trans ?_ (Below.mono (by assumption) ?_))) <;> (first | (simp; done) | (simp; omega) | omega))⟩
set_option maxRecDepth 100000 in
theorem askS (most : Bool) (n : Int) (bm b bq N : Nat) (w : World) (hm : bm < w.heap.size) (cm : w.cell? ⟨bm, 0, none⟩ = some (.bool most)) (hb : b < w.heap.size) (hc : w.cell? ⟨b, 0, none⟩ = some (.int .i64 n)) (hq : bq < w.heap.size) (hp : w.cell? ⟨bq, 0, none⟩ = some (qS bm b)) : Asks w bq N (soFar most n) := by
  intro W l K _
  have kp := (K.cell (p := ⟨bq, 0, none⟩) hq).trans hp
  have kc := (K.cell (p := ⟨b, 0, none⟩) hb).trans hc
  have km := (K.cell (p := ⟨bm, 0, none⟩) hm).trans cm
  have lq : bq < W.heap.size := by have := K.size; omega
  have lb : b < W.heap.size := by have := K.size; omega
  have lm : bm < W.heap.size := by have := K.size; omega
  have H := fun V (K : Below W.heap.size W V) => askS0 most n bm b l V (by have := K.size; omega) ((K.cell (p := ⟨bm, 0, none⟩) lm).trans km) (by have := K.size; omega) ((K.cell (p := ⟨b, 0, none⟩) lb).trans kc)
  clear K hp hc hq hb hm cm
  go_enter Try.func36, Try.ntmps36
  go_wp2_with (go_at_call 25; (with_reducible refine (H _ (by ((repeat' (first | with_reducible exact Below.refl _ _ | with_reducible apply Below.setCell | with_reducible apply below_drewN | with_reducible apply Below.drew | with_reducible apply Below.alloc | with_reducible refine Below.trans ?_ (Below.mono (by assumption) ?_))) <;> (first | (simp; done) | (simp; omega) | omega)))).mono ?_); rintro e w3 ⟨rfl, hb3⟩)
  go_ret
  exact ⟨rfl, (show Below W.heap.size W _ by ((repeat' (first | with_reducible exact Below.refl _ _ | with_reducible apply Below.setCell | with_reducible apply below_drewN | with_reducible apply Below.drew | with_reducible apply Below.alloc | with_reducible refine Below.trans ?_ (Below.mono (by assumption) ?_))) <;> (first | (simp; done) | (simp; omega) | omega))).trans (hb3.mono (by simp))⟩
end Go.Proofs.Yteolbbdokhmjgaa.fin
