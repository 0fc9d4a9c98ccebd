/- Where a tree is cut by how many, or by how great one is. -/
import Derived.Test.YteolbbdokhmjgaaFinSplit5
import Derived.Test.YteolbbdokhmjgaaFinWalks
import Derived.Test.YteolbbdokhmjgaaRefMeasure
namespace Go.Proofs.Yteolbbdokhmjgaa.fin
open Go Go.RowKit Go.Proofs.Yteolbbdokhmjgaa.mono

theorem soFar_mono {m : Bool} {n : Int} {A : List Int} (B : List Int) (h : soFar m n A = true) : soFar m n (A ++ B) = true := by
  have e := mst_append A B
  have l : (A ++ B).length = A.length + B.length := List.length_append
  cases m
  · simp [soFar] at h ⊢
    omega
  · simp [soFar] at h ⊢
    rw [e]
    omega
theorem soFar_take {m : Bool} {n : Int} {L : List Int} {i j : Nat} (hij : i ≤ j) (h : soFar m n (L.take i) = true) : soFar m n (L.take j) = true := by
  have e : L.take j = L.take i ++ (L.take j).drop i := by
    have := (List.take_append_drop i (L.take j)).symm
    rwa [List.take_take, Nat.min_eq_left hij] at this
  rw [e]
  exact soFar_mono _ h
theorem cut_at {m : Bool} {n : Int} {L X Y : List Int} {k : Nat} (h : Cut (soFar m n) L X Y) (hk : k ≤ L.length) (hno : ∀ j, j < k → soFar m n (L.take (j + 1)) = false) (hyes : k < L.length → soFar m n (L.take (k + 1)) = true) :
    X.length = (if soFar m n [] = true then 0 else k) ∧ Y.length = L.length - (if soFar m n [] = true then 0 else k) := by
  obtain ⟨o, h1, h2, h3⟩ := h
  have lo := congrArg List.length o
  rw [List.length_append] at lo
  have key : X.length = (if soFar m n [] = true then 0 else k) := by
    by_cases c0 : soFar m n [] = true
    · rw [if_pos c0, h1 c0]; rfl
    · have c0' : soFar m n [] = false := by simpa using c0
      rw [if_neg c0]
      by_cases c1 : soFar m n L = true
      · obtain ⟨t1, x, Z, rfl, t2⟩ := h3 c0' c1
        have e1 : L.take X.length = X := by rw [← o]; simp
        have e2 : L.take (X.length + 1) = X ++ [x] := by rw [← o, show X ++ x :: Z = (X ++ [x]) ++ Z by simp]; exact List.take_left' (by simp)
        have lx : X.length < L.length := by rw [List.length_cons] at lo; omega
        rcases Nat.lt_trichotomy X.length k with c | c | c
        · have := hno X.length c
          rw [e2, t2] at this
          cases this
        · exact c
        · have := soFar_take (j := X.length) (by omega) (hyes (by omega))
          rw [e1, t1] at this
          cases this
      · have c1' : soFar m n L = false := by simpa using c1
        rw [h2 c0' c1'] at lo
        simp at lo
        have : ¬ k < L.length := by
          intro c
          have := soFar_take (j := L.length) (by omega) (hyes c)
          rw [List.take_length, c1'] at this
          cases this
        omega
  exact ⟨key, by rw [← key]; omega⟩
end Go.Proofs.Yteolbbdokhmjgaa.fin
