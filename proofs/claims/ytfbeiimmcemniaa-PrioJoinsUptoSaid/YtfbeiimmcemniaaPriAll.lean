/- Package measured: pushAllLeft, pushAllRight. -/
import Derived.Test.YtfbeiimmcemniaaPriPushR
namespace Go.Proofs.Ytfbeiimmcemniaa.pri
open Go Go.RowKit

section
variable {Q : Nat → Prop} {w : World}
theorem push_l {k : Nat} {p px : Option Addr} {X T : List (Int × Int)} (L : List (Int × Int)) (hQ : ∀ b, w.heap.size ≤ b → Q b) (h : IsL Q w (.pointer p) k T) (hx : IsN Q w (.pointer px) k X) (hL : X ++ T = L) (hbd : L.length ≤ 4611686018427387904) :
    Calls Try.prog 37 #[.pointer p, .pointer px] w fun e w' => (∃ u, e = .returned u ∧ IsL Q w' u k L) ∧ Below w.heap.size w w' := by
  obtain ⟨_, t, e, h1, h2, h3⟩ := h
  cases e
  obtain ⟨_, n, e, n1, n2, n3⟩ := hx
  cases e
  exact pushLeft_any t k p px n w L hQ h1 h2 n1 n2 (by rw [n3, h3, hL]) hbd
theorem push_r {k : Nat} {p px : Option Addr} {X T : List (Int × Int)} (L : List (Int × Int)) (hQ : ∀ b, w.heap.size ≤ b → Q b) (h : IsL Q w (.pointer p) k T) (hx : IsN Q w (.pointer px) k X) (hL : T ++ X = L) (hbd : L.length ≤ 4611686018427387904) :
    Calls Try.prog 23 #[.pointer p, .pointer px] w fun e w' => (∃ u, e = .returned u ∧ IsL Q w' u k L) ∧ Below w.heap.size w w' := by
  obtain ⟨_, t, e, h1, h2, h3⟩ := h
  cases e
  obtain ⟨_, n, e, n1, n2, n3⟩ := hx
  cases e
  exact pushRight_any t k p px n w L hQ h1 h2 n1 n2 (by rw [n3, h3, hL]) hbd
end

set_option maxHeartbeats 4000000 in
theorem pushAllLeft_any {Q : Nat → Prop} (k : Nat) (p : Option Addr) (v : Value) (ns : List Nd) (T L : List (Int × Int)) (w : World) (hQ : ∀ b, w.heap.size ≤ b → Q b) (h : IsL Q w (.pointer p) k T) (hr : Row Q w v ns) (hk : Hts k ns) (hn4 : ns.length ≤ 12) (hL : flat ns ++ T = L) (hbd : L.length ≤ 4611686018427387904) :
    Calls Try.prog 39 #[.pointer p, v] w fun e w' => (∃ u, e = .returned u ∧ IsL Q w' u k L) ∧ Below w.heap.size w w' := by
  obtain ⟨a, cap, rfl, -, hcap, hc⟩ := hr.cells
  obtain ⟨n, hn⟩ : ∃ n, ns.length = n := ⟨_, rfl⟩
  rw [hn] at hcap hc hn4 ⊢
  have hle : ∀ j, (flat (ns.drop j) ++ T).length ≤ L.length := by
    intro j
    rw [← hL, ← List.take_append_drop j ns, flat_append]
    simp
  go_enter Try.func39, Try.ntmps39
  go_wp2_with fail
  go_loopw [0, 5] (fun x i W => ∃ (m : Int) (M : List (Int × Int)), -1 ≤ m ∧ m < n ∧ i = .int .i64 m ∧ Hid (flat (ns.drop (m + 1).toNat) ++ T = M) ∧ IsL Q W x k M ∧ Below w.heap.size w W) (fun _ i _ => (intOf i + 1).toNat)
  case atStart =>
    refine ⟨(n : Int) - 1, T, by omega, by omega, by go_num, ?_, h, Below.refl _ _⟩
    show _ = _
    rw [show ((n : Int) - 1 + 1).toNat = ns.length by omega, List.drop_length]
    rfl
  case round =>
    clear h
    obtain ⟨m, M, h1, h2, rfl, hM, hu, hb⟩ := hrel
    by_cases h0 : 0 ≤ m
    · obtain ⟨j, rfl⟩ := Int.eq_ofNat_of_zero_le h0
      have hj : j < n := by omega
      obtain ⟨b, off, rfl, -, hb0, hcell⟩ := hc (by omega)
      obtain ⟨x, hx⟩ : ∃ x, ns[j]? = some x := ⟨_, List.getElem?_eq_some_iff.2 ⟨by omega, rfl⟩⟩
      obtain ⟨px, kp, hnod⟩ := hcell j x hx
      have kp2 := (hb.cell (p := ⟨b, off + j, none⟩) hb0).trans kp
      have hbw : b < wr.heap.size := by have := hb.size; omega
      have e1 : ns.drop j = x :: ns.drop (j + 1) := by
        obtain ⟨hlt, rfl⟩ := List.getElem?_eq_some_iff.1 hx
        exact List.drop_eq_getElem_cons hlt
      obtain ⟨M', hM'⟩ : ∃ M', flat (ns.drop j) ++ T = M' := ⟨_, rfl⟩
      have e2 : x.nums ++ M = M' := by
        rw [← hM', e1, flat_cons, ← hM.out, show ((j : Int) + 1).toNat = j + 1 by omega, List.append_assoc]
      have hle' : M'.length ≤ 4611686018427387904 := by have := hle j; rw [hM'] at this; omega
      obtain ⟨q, t, rfl, ht⟩ := hu
      have H := push_l (px := px) M' (fun b h => hQ b (Nat.le_trans hb.size h)) ⟨q, t, rfl, ht⟩ ⟨px, x, rfl, hnod.on hb, hk x (List.mem_of_getElem? hx), rfl⟩ e2 hle'
      replace hM' := Lib.hid hM'
      clear e2 e1 hnod hx kp hcell hc hM ht hle hr hk h2
      go_wp2_with (go_at_call 37; (with_reducible refine H.mono ?_); clear H; rintro e w1 ⟨⟨u, rfl, hu⟩, hb1⟩)
      go_roundw
      case rel => exact ⟨(j : Int) - 1, M', by omega, by omega, by go_num, by show _ = _; rw [show ((j : Int) - 1 + 1).toNat = j by omega]; exact hM'.out, hu, hb.trans (hb1.mono hb.size)⟩
      case measure => simp [intOf] <;> omega
    · obtain rfl : m = -1 := by omega
      have e1 : M = L := by rw [← hM.out, ← hL]; rfl
      subst e1
      go_wp2_with fail
      go_ret
      exact ⟨⟨_, rfl, hu⟩, hb⟩

set_option maxHeartbeats 4000000 in
theorem pushAllRight_any {Q : Nat → Prop} (k : Nat) (p : Option Addr) (v : Value) (ns : List Nd) (T L : List (Int × Int)) (w : World) (hQ : ∀ b, w.heap.size ≤ b → Q b) (h : IsL Q w (.pointer p) k T) (hr : Row Q w v ns) (hk : Hts k ns) (hn4 : ns.length ≤ 12) (hL : T ++ flat ns = L) (hbd : L.length ≤ 4611686018427387904) :
    Calls Try.prog 40 #[.pointer p, v] w fun e w' => (∃ u, e = .returned u ∧ IsL Q w' u k L) ∧ Below w.heap.size w w' := by
  obtain ⟨a, cap, rfl, -, hcap, hc⟩ := hr.cells
  obtain ⟨n, hn⟩ : ∃ n, ns.length = n := ⟨_, rfl⟩
  rw [hn] at hcap hc hn4 ⊢
  have hle : ∀ j, (T ++ flat (ns.take j)).length ≤ L.length := by
    intro j
    have : flat ns = flat (ns.take j) ++ flat (ns.drop j) := by rw [← flat_append, List.take_append_drop]
    rw [← hL, this]
    simp
  go_enter Try.func40, Try.ntmps40
  go_wp2_with fail
  go_loopw [0, 6, 9] (fun x _ i W => ∃ (j : Nat) (M : List (Int × Int)), j ≤ n ∧ i = .int .i64 j ∧ Hid (T ++ flat (ns.take j) = M) ∧ IsL Q W x k M ∧ Below w.heap.size w W) (fun _ _ i _ => n - (intOf i).toNat)
  case atStart => exact ⟨0, T, by omega, rfl, by show _ = _; simp [flat], h, Below.refl _ _⟩
  case round =>
    clear h
    obtain ⟨j, M, h2, rfl, hM, hu, hb⟩ := hrel
    by_cases hj : j < n
    · obtain ⟨b, off, rfl, -, hb0, hcell⟩ := hc (by omega)
      obtain ⟨x, hx⟩ : ∃ x, ns[j]? = some x := ⟨_, List.getElem?_eq_some_iff.2 ⟨by omega, rfl⟩⟩
      obtain ⟨px, kp, hnod⟩ := hcell j x hx
      have kp2 := (hb.cell (p := ⟨b, off + j, none⟩) hb0).trans kp
      have hbw : b < wr.heap.size := by have := hb.size; omega
      obtain ⟨M', hM'⟩ : ∃ M', T ++ flat (ns.take (j + 1)) = M' := ⟨_, rfl⟩
      have e2 : M ++ x.nums = M' := by
        rw [← hM', List.take_add_one, hx, ← hM.out]
        simp [flat]
      have hle' : M'.length ≤ 4611686018427387904 := by have := hle (j + 1); rw [hM'] at this; omega
      obtain ⟨q, t, rfl, ht⟩ := hu
      have H := push_r (px := px) M' (fun b h => hQ b (Nat.le_trans hb.size h)) ⟨q, t, rfl, ht⟩ ⟨px, x, rfl, hnod.on hb, hk x (List.mem_of_getElem? hx), rfl⟩ e2 hle'
      replace hM' := Lib.hid hM'
      clear e2 hnod hx kp hcell hc hM ht hle hr hk h2
      go_wp2_with (go_at_call 23; (with_reducible refine H.mono ?_); clear H; rintro e w1 ⟨⟨u, rfl, hu⟩, hb1⟩)
      go_roundw
      case rel => exact ⟨j + 1, M', by omega, by go_num, hM', hu, hb.trans (hb1.mono hb.size)⟩
      case measure => simp [intOf]; omega
    · obtain rfl : j = n := by omega
      have e1 : M = L := by rw [← hM.out, ← hL, ← hn, List.take_length]
      subst e1
      go_wp2_with fail
      go_ret
      exact ⟨⟨_, rfl, hu⟩, hb⟩
end Go.Proofs.Ytfbeiimmcemniaa.pri
