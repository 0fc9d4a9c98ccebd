/- Rows of items: compared; the first greatest one; without one. -/
import Derived.Test.YtfbeiimmcemniaaChecked
import Derived.Test.YtfbeiimmcemniaaHeap
import Derived.Test.YtfbeiimmcemniaaReg
import Derived.Test.YtfbeiimmcemniaaRel
import Derived.Test.YtfbeiimmcemniaaRws
import Derived.Laws.StructEq
import Derived.WalkKit
import Derived.BigQuiet
import Derived.Deep.QuietTactic
import Derived.StillTailTactics
import Derived.WalkSmall
import Derived.RegionTactic
import Derived.BigRegion
import Derived.Lib.Hide
namespace Go.Proofs.Ytfbeiimmcemniaa.rws
open Go Go.RowKit

/-- two items are compared -/
theorem eq_item (x y a b : Int) (w : World) : Sem.run Try.prog (Op.equalIn 10000 32 (.agg #[.int .i64 x, .int .i64 y]) (.agg #[.int .i64 a, .int .i64 b])) w = .ok (x == a && y == b) w := by
  have hu := Try.underlying3
  rw [run_equalIn_struct w 9999 32 _ _ (by simp [Program.fieldsOf, Try.underlying32]) (by kernel_rfl)]
  simp only [Program.fieldsOf, Try.underlying32]
  by_cases h : x = a <;> by_cases h' : y = b <;> simp [Op.eqFields, part, go_sem, hu, h, h']
theorem infoItem : (Try.prog.info? 32).map (fun i => (i.zero, i.size, i.bytes)) = some (some (.agg #[.int .i64 0, .int .i64 0]), 2, 16) := by kernel_rfl

theorem at_ {l : List (Int × Int)} {k : Nat} (h : k < l.length) : l[k]? = some (l.getD k (0, 0)) := by simp [h]
/-- the cells of a row -/
theorem IsRw.cells {W : World} {B : Nat} {a : Option Addr} {n c : Nat} {l : List (Int × Int)} (h : IsRw pr W B (.slice a n c) l) (hp : 0 < l.length) : ∃ b off, a = some ⟨b, off, none⟩ ∧ b < B ∧ ∀ k, k < l.length → W.cell? ⟨b, off + k * 2, none⟩ = some (.int .i64 (l.getD k (0, 0)).1) ∧ W.cell? ⟨b, off + k * 2 + 1, none⟩ = some (.int .i64 (l.getD k (0, 0)).2) := by
  obtain ⟨b, off, ha, hb, hc⟩ := h.at hp
  refine ⟨b, off, ha, hb, fun k hk => ⟨?_, ?_⟩⟩
  · exact hc k _ (at_ hk) 0 _ rfl
  · exact hc k _ (at_ hk) 1 _ rfl

set_option maxRecDepth 100000 in
set_option maxHeartbeats 4000000 in
theorem items_eq {v0 v1 : Value} {l0 l1 : List (Int × Int)} {w : World} (he : l0 = l1) (h0 : IsRw pr w w.heap.size v0 l0) (h1 : IsRw pr w w.heap.size v1 l1) :
    Calls Try.prog 13 #[v0, v1] w fun e w' => e = .returned (.bool true) ∧ Below w.heap.size w w' := by
  subst he
  obtain ⟨a0, c0, rfl⟩ := h0.val
  obtain ⟨a1, c1, rfl⟩ := h1.val
  have hc0 := h0.cells
  have hc1 := h1.cells
  have hm := h0.len
  clear h0 h1
  obtain ⟨n, hn⟩ : ∃ n, l0.length = n := ⟨_, rfl⟩
  rw [hn] at hc0 hc1 hm ⊢
  go_enter Try.func13, Try.ntmps13
  go_wp2_with fail
  go_loopw [5] (fun i wr => ∃ k m : Nat, i = .int .i64 k ∧ wr = w.drewN m ∧ k ≤ n) (fun i _ => n - (intOf i).toNat)
  case atStart => exact ⟨0, 0, rfl, rfl, by omega⟩
  case round =>
    obtain ⟨k, m, rfl, rfl, hk⟩ := hrel
    by_cases hlt : k < n
    · obtain ⟨b0, o0, rfl, hb0, hd0⟩ := hc0 (by omega)
      obtain ⟨b1, o1, rfl, hb1, hd1⟩ := hc1 (by omega)
      obtain ⟨p0, p1⟩ := hd0 k hlt
      obtain ⟨q0, q1⟩ := hd1 k hlt
      generalize (l0.getD k (0, 0)).1 = x at *
      generalize (l0.getD k (0, 0)).2 = y at *
      have heq := eq_item x y x y
      simp only [beq_self_eq_true, Bool.and_self] at heq
      clear hd0 hd1 hc0 hc1
      go_wp2_with fail
      (refine reg.region_quiet_again (by kernel_rfl) (by kernel_rfl) ?_; (repeat (go_big_quiet_step ((fail)))); refine wpQuiet_nil ?_; intro _ hw'; obtain ⟨nq, hw''⟩ := hw'; subst hw'')
      go_wp2_with fail
      go_roundw
      case rel => exact ⟨k + 1, _, by go_num, rfl, by omega⟩
      case measure => simp [intOf]; omega
    · obtain rfl : k = n := by omega
      go_wp2_with fail
      go_ret
      refine ⟨rfl, ?_⟩
      ((repeat' (first | with_reducible exact Below.refl _ _ | with_reducible apply Below.setCell | with_reducible apply below_drewN | with_reducible apply Below.drew | with_reducible apply Below.alloc | with_reducible refine Below.trans ?_ (Below.mono (by assumption) ?_))) <;> (first | (simp; done) | (simp; omega) | omega))

/-! ### the first greatest one -/
/-- among the first n, b is the first one of the greatest -/
def FirstAt (l : List (Int × Int)) (n b : Nat) : Prop := b < n ∧ (∀ j, j < b → (l.getD j (0, 0)).1 < (l.getD b (0, 0)).1) ∧ ∀ j, j < n → (l.getD j (0, 0)).1 ≤ (l.getD b (0, 0)).1
theorem FirstAt.start (l : List (Int × Int)) : FirstAt l 1 0 := ⟨by omega, fun j h => by omega, fun j h => by obtain rfl : j = 0 := by omega
                                                                                                              exact Int.le_refl _⟩
theorem FirstAt.more {l : List (Int × Int)} {n b : Nat} (h : FirstAt l n b) (hx : (l.getD b (0, 0)).1 < (l.getD n (0, 0)).1) : FirstAt l (n + 1) n := by
  obtain ⟨h1, h2, h3⟩ := h
  refine ⟨by omega, fun j hj => by have := h3 j hj; omega, fun j hj => ?_⟩
  by_cases hjn : j = n
  · subst hjn; exact Int.le_refl _
  · have := h3 j (by omega); omega
theorem FirstAt.less {l : List (Int × Int)} {n b : Nat} (h : FirstAt l n b) (hx : ¬ (l.getD b (0, 0)).1 < (l.getD n (0, 0)).1) : FirstAt l (n + 1) b := by
  obtain ⟨h1, h2, h3⟩ := h
  refine ⟨by omega, h2, fun j hj => ?_⟩
  by_cases hjn : j = n
  · subst hjn; omega
  · exact h3 j (by omega)
theorem FirstAt.one {l : List (Int × Int)} {n b b' : Nat} (h : FirstAt l n b) (h' : FirstAt l n b') : b = b' := by
  obtain ⟨h1, h2, h3⟩ := h
  obtain ⟨k1, k2, k3⟩ := h'
  rcases Nat.lt_trichotomy b b' with hlt | he | hlt
  · have := k2 b hlt; have := h3 b' k1; omega
  · exact he
  · have := h2 b' hlt; have := k3 b h1; omega
/-- an item with what is before it and behind it: the first greatest one -/
def Topped (X : List (Int × Int)) (x : Int × Int) (Y : List (Int × Int)) : Prop := (∀ y ∈ X, y.1 < x.1) ∧ ∀ y ∈ Y, y.1 ≤ x.1
theorem Topped.first {X Y : List (Int × Int)} {x : Int × Int} (h : Topped X x Y) : FirstAt (X ++ x :: Y) (X ++ x :: Y).length X.length := by
  have hx : ((X ++ x :: Y).getD X.length (0, 0)) = x := by simp
  have hl : ∀ j, j < X.length → (X ++ x :: Y).getD j (0, 0) ∈ X := fun j hj => by
    rw [List.getD_eq_getElem?_getD, List.getElem?_append_left hj, List.getElem?_eq_getElem hj]
    exact List.getElem_mem hj
  refine ⟨by simp, fun j hj => by rw [hx]; exact h.1 _ (hl j hj), fun j hj => ?_⟩
  rw [hx]
  by_cases hj1 : j < X.length
  · exact Int.le_of_lt (h.1 _ (hl j hj1))
  · by_cases hj2 : j = X.length
    · rw [hj2, hx]; exact Int.le_refl _
    · obtain ⟨i, rfl⟩ : ∃ i, j = X.length + 1 + i := ⟨j - X.length - 1, by omega⟩
      have hi : i < Y.length := by simp at hj; omega
      have : (X ++ x :: Y).getD (X.length + 1 + i) (0, 0) ∈ Y := by
        rw [List.getD_eq_getElem?_getD, List.getElem?_append_right (by omega), show X.length + 1 + i - X.length = i + 1 by omega, List.getElem?_cons_succ, List.getElem?_eq_getElem hi]
        exact List.getElem_mem hi
      exact h.2 _ this
theorem Topped.one {X Y X' Y' : List (Int × Int)} {x x' : Int × Int} (h : Topped X x Y) (h' : Topped X' x' Y') (e : X ++ x :: Y = X' ++ x' :: Y') : X = X' ∧ x = x' ∧ Y = Y' := by
  have h1 := h.first
  rw [e] at h1
  have hl := h1.one h'.first
  obtain ⟨e1, e2⟩ := List.append_inj e hl
  cases e2
  exact ⟨e1, rfl, rfl⟩
theorem Topped.exists : ∀ {l : List (Int × Int)}, l ≠ [] → ∃ X x Y, l = X ++ x :: Y ∧ Topped X x Y
  | [], h => absurd rfl h
  | [x], _ => ⟨[], x, [], rfl, by simp, by simp⟩
  | y :: z :: l, _ => by
    obtain ⟨X, x, Y, e, h1, h2⟩ := Topped.exists (l := z :: l) (by simp)
    by_cases hy : y.1 < x.1
    · exact ⟨y :: X, x, Y, by rw [e]; rfl, fun u hu => by
        rcases List.mem_cons.1 hu with rfl | hu
        · exact hy
        · exact h1 u hu, h2⟩
    · refine ⟨[], y, z :: l, rfl, by simp, fun u hu => ?_⟩
      rw [e] at hu
      rcases List.mem_append.1 hu with hu | hu
      · have := h1 u hu; omega
      · rcases List.mem_cons.1 hu with rfl | hu
        · omega
        · have := h2 u hu; omega

set_option maxRecDepth 100000 in
set_option maxHeartbeats 4000000 in
theorem first_raw {v : Value} {l : List (Int × Int)} {w : World} (h : IsRw pr w w.heap.size v l) (h1 : 1 ≤ l.length) :
    Calls Try.prog 9 #[v] w fun e w' => (∃ b : Nat, e = .returned (.int .i64 b) ∧ FirstAt l l.length b) ∧ Below w.heap.size w w' := by
  obtain ⟨a, c, rfl⟩ := h.val
  obtain ⟨bb, off, rfl, hb, hc⟩ := h.cells (by omega)
  have hm := h.len
  clear h
  obtain ⟨n, hn⟩ : ∃ n, l.length = n := ⟨_, rfl⟩
  rw [hn] at hc hm h1 ⊢
  go_enter Try.func9, Try.ntmps9
  go_wp2_with fail
  go_loopw [3, 4] (fun u i wr => ∃ k b m : Nat, u = .int .i64 b ∧ i = .int .i64 k ∧ wr = w.drewN m ∧ k ≤ n ∧ Hid (FirstAt l k b) ∧ b < k) (fun _ i _ => n - (intOf i).toNat)
  case atStart => exact ⟨1, 0, 0, rfl, rfl, rfl, by omega, FirstAt.start l, by omega⟩
  case round =>
    obtain ⟨k, b, m, rfl, rfl, rfl, hk, hF, hbk⟩ := hrel
    by_cases hlt : k < n
    · obtain ⟨p0, -⟩ := hc k hlt
      obtain ⟨q0, -⟩ := hc b (by omega)
      have hmo := hF.out.more
      have hle := hF.out.less
      generalize (l.getD k (0, 0)).1 = x at *
      generalize (l.getD b (0, 0)).1 = y at *
      clear hc hF
      by_cases hxy : y < x
      · have hnext := Lib.hid (hmo hxy)
        clear hmo hle
        go_wp2_with fail
        go_big_region
        go_wp2_with fail
        go_roundw
        case rel => exact ⟨k + 1, k, _, rfl, by go_num, rfl, by omega, hnext, by omega⟩
        case measure => simp [intOf]; omega
      · have hnext := Lib.hid (hle hxy)
        clear hmo hle
        go_wp2_with fail
        go_big_region
        go_wp2_with fail
        go_roundw
        case rel => exact ⟨k + 1, b, _, rfl, by go_num, rfl, by omega, hnext, by omega⟩
        case measure => simp [intOf]; omega
    · obtain rfl : k = n := by omega
      go_wp2_with fail
      go_ret
      exact ⟨⟨b, rfl, hF.out⟩, by ((repeat' (first | with_reducible exact Below.refl _ _ | with_reducible apply Below.setCell | with_reducible apply below_drewN | with_reducible apply Below.drew | with_reducible apply Below.alloc | with_reducible refine Below.trans ?_ (Below.mono (by assumption) ?_))) <;> (first | (simp; done) | (simp; omega) | omega))⟩
end Go.Proofs.Ytfbeiimmcemniaa.rws
