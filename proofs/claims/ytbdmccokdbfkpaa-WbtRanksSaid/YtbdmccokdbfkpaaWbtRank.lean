/- Package wbt: Rank, At. -/
import Derived.Test.YtbdmccokdbfkpaaWbtSet
import Derived.Test.YtbdmccokdbfkpaaSame
namespace Go.Proofs.Ytbdmccokdbfkpaa.wbt
open Go Go.RowKit
open Go.Proofs.Ytbdmccokdbfkpaa.sch

theorem cnt_lo (l : List Int) (x : Int) : same.cnt l x = (lo x l).length := List.countP_eq_length_filter
theorem cnt_left {x y : Int} {a b : List Int} (h : Asc (a ++ y :: b)) (hx : x ≤ y) : same.cnt (a ++ y :: b) x = same.cnt a x := by
  rw [cnt_lo, cnt_lo, lo_left h hx]
theorem cnt_right {x y : Int} {a b : List Int} (h : Asc (a ++ y :: b)) (hx : y < x) : same.cnt (a ++ y :: b) x = a.length + 1 + same.cnt b x := by
  rw [cnt_lo, cnt_lo, lo_right h hx, List.length_append, List.length_cons]
  omega
theorem cnt_le (l : List Int) (x : Int) : same.cnt l x ≤ l.length := List.countP_le_length

/-- the number at a place, and whether there is one -/
def at_ (l : List Int) (i : Int) : Int × Bool := if 0 ≤ i ∧ i < l.length then (l.getD i.toNat 0, true) else (0, false)
theorem at_nil (i : Int) : at_ [] i = (0, false) := by
  unfold at_
  rw [if_neg (by simp)]
theorem at_mid (y : Int) (a b : List Int) : at_ (a ++ y :: b) a.length = (y, true) := by
  unfold at_
  rw [if_pos (by simp; omega)]
  simp
theorem at_low {i : Int} (y : Int) (a b : List Int) (h : i < a.length) : at_ (a ++ y :: b) i = at_ a i := by
  unfold at_
  by_cases h0 : 0 ≤ i
  · rw [if_pos ⟨h0, by rw [List.length_append]; omega⟩, if_pos ⟨h0, h⟩]
    rw [List.getD_eq_getElem?_getD, List.getD_eq_getElem?_getD, List.getElem?_append_left (by omega)]
  · rw [if_neg (fun h => h0 h.1), if_neg (fun h => h0 h.1)]
theorem at_high {i : Int} (y : Int) (a b : List Int) (h : (a.length : Int) < i) : at_ (a ++ y :: b) i = at_ b (i - (a.length + 1)) := by
  unfold at_
  by_cases h0 : i < a.length + 1 + b.length
  · rw [if_pos ⟨by omega, by rw [List.length_append, List.length_cons]; omega⟩, if_pos ⟨by omega, by omega⟩]
    rw [List.getD_eq_getElem?_getD, List.getD_eq_getElem?_getD, List.getElem?_append_right (by omega)]
    rw [show i.toNat - a.length = (i - (a.length + 1)).toNat + 1 by omega, List.getElem?_cons_succ]
  · rw [if_neg (fun h => by have := h.2; rw [List.length_append, List.length_cons] at this; omega), if_neg (fun h => by omega)]

set_option maxHeartbeats 8000000 in
theorem rank_any {v : Value} {l : List Int} {x : Int} {w : World} (hv : IsSet w w.heap.size v l) (hbd : l.length < 576460752303423400) :
    Calls Try.prog 32 #[v, .int .i64 x] w fun e w' => e = .returned (.int .i64 (same.cnt l x)) ∧ Below w.heap.size w w' := by
  obtain ⟨p, t, rfl, hn, hi, hk, ha, -⟩ := hv
  obtain ⟨N, hN⟩ : ∃ N, same.cnt l x = N := ⟨_, rfl⟩
  have hNl : N < 576460752303423400 := by have := cnt_le l x; omega
  rw [hN]
  have hb0 := (Below.refl w.heap.size w).alloc (Nat.le_refl _) (.cells #[.pointer p] tyH)
  go_enter Try.func32, Try.ntmps32
  go_wp2_with fail
  go_loopg [5, 6] l.length (fun k u v W' => ∃ (n : Nat) (t' : Tr) (p' : Option Addr), u = .int .i64 n ∧ v = .pointer p' ∧ Nod w.heap.size w t' p' ∧ Wb t' ∧ Asc (keys t') ∧ n + same.cnt (keys t') x = N ∧ k = (keys t').length ∧ Below w.heap.size w W')
  case atStart => exact ⟨0, t, p, rfl, rfl, hn, hi, by rw [hk]; exact ha, by rw [hk, hN]; omega, by rw [hk], hb0⟩
  case round =>
    clear hn hi hk ha hb0 hN
    obtain ⟨n, t', p', rfl, rfl, hn, hi, ha, hr, hk, hb⟩ := hrel
    rcases t' with _ | ⟨y, m, l', r⟩
    · obtain rfl : p' = none := hn
      obtain rfl : n = N := by simpa [keys, same.cnt] using hr
      clear hr ha hk hi
      go_wp2_with fail
      go_ret
      exact ⟨rfl, hb⟩
    · obtain ⟨g, c, d, rfl, hg, hv, hl, hrr⟩ := hn
      obtain ⟨-, -, -, il, ir⟩ := hi
      have c0 := (hb.cell (p := ⟨g, 0, none⟩) hg).trans (hv.cell 0)
      have c2 := (hb.cell (p := ⟨g, 2, none⟩) hg).trans (hv.cell 2)
      have c3 := (hb.cell (p := ⟨g, 3, none⟩) hg).trans (hv.cell 3)
      simp only [List.getElem?_cons_zero, List.getElem?_cons_succ] at c0 c2 c3
      have hg2 := Nat.lt_of_lt_of_le hg hb.size
      simp only [keys] at ha hr hk
      rw [List.length_append, List.length_cons] at hk
      obtain ⟨ha1, ha2, -, -⟩ := asc_node.1 ha
      by_cases hlt : x ≤ y
      · rw [cnt_left ha hlt] at hr
        have hd := Lib.hid (show (keys l').length < gk ∧ n + same.cnt (keys l') x = N from ⟨by omega, hr⟩)
        clear hr ha hk hv hrr ha2 ir
        go_wp2_with fail
        go_roundg (keys l').length
        case measure => exact hd.out.1
        case rel => exact ⟨n, l', c, rfl, rfl, hl, il, ha1, hd.out.2, rfl, hb⟩
      · rw [cnt_right ha (by omega)] at hr
        have hsz := size_any (hl.grow hb hb.size) il
        obtain ⟨s, hs⟩ : ∃ s, siz l' = s := ⟨_, rfl⟩
        rw [hs] at hsz
        have hs2 : (keys l').length = s := hs
        rw [hs2] at hr hk
        have hd := Lib.hid (show (keys r).length < gk ∧ (n + (s + 1)) + same.cnt (keys r) x = N from ⟨by omega, by omega⟩)
        have hb1 : n + s < 576460752303423400 := by omega
        clear hr ha hk hv hl ha1 il hs hs2
        go_wp2_with (go_at_call 39; (with_reducible refine hsz.mono ?_); clear hsz; rintro e w1 ⟨rfl, rfl⟩)
        go_roundg (keys r).length
        case measure => exact hd.out.1
        case rel => exact ⟨n + (s + 1), r, d, by simp, rfl, hrr, ir, ha2, hd.out.2, rfl, hb⟩

set_option maxHeartbeats 8000000 in
theorem at_any {v : Value} {l : List Int} {i : Int} {w : World} {y : Int} {f : Bool} (hv : IsSet w w.heap.size v l) (hbd : l.length < 576460752303423400) (hi2 : i ≤ 9223372036854775807) (hr : at_ l i = (y, f)) :
    Calls Try.prog 33 #[v, .int .i64 i] w fun e w' => e = .returned (.tuple #[.int .i64 y, .bool f]) ∧ Below w.heap.size w w' := by
  obtain ⟨p, t, rfl, hn, hi, hk, -⟩ := hv
  have hb0 := (Below.refl w.heap.size w).alloc (Nat.le_refl _) (.cells #[.pointer p] tyH)
  go_enter Try.func33, Try.ntmps33
  go_wp2_with fail
  go_loopg [1, 6] l.length (fun k u v W' => ∃ (j : Int) (t' : Tr) (p' : Option Addr), u = .int .i64 j ∧ v = .pointer p' ∧ Nod w.heap.size w t' p' ∧ Wb t' ∧ at_ (keys t') j = (y, f) ∧ j ≤ 9223372036854775807 ∧ k = (keys t').length ∧ k ≤ l.length ∧ Below w.heap.size w W')
  case atStart => exact ⟨i, t, p, rfl, rfl, hn, hi, by rw [hk]; exact hr, hi2, by rw [hk], Nat.le_refl _, hb0⟩
  case round =>
    clear hn hi hk hb0 hr hi2
    obtain ⟨j, t', p', rfl, rfl, hn, hi, hr, hj, hk, hkl, hb⟩ := hrel
    rcases t' with _ | ⟨z, m, l', r⟩
    · obtain rfl : p' = none := hn
      rw [show keys .nil = [] from rfl, at_nil] at hr
      obtain ⟨rfl, rfl⟩ := Prod.mk.inj hr
      clear hr hk hi hkl
      go_wp2_with fail
      go_ret2
      exact ⟨rfl, hb⟩
    · obtain ⟨g, c, d, rfl, hg, hv, hl, hrr⟩ := hn
      obtain ⟨-, -, -, il, ir⟩ := hi
      have c0 := (hb.cell (p := ⟨g, 0, none⟩) hg).trans (hv.cell 0)
      have c2 := (hb.cell (p := ⟨g, 2, none⟩) hg).trans (hv.cell 2)
      have c3 := (hb.cell (p := ⟨g, 3, none⟩) hg).trans (hv.cell 3)
      simp only [List.getElem?_cons_zero, List.getElem?_cons_succ] at c0 c2 c3
      have hg2 := Nat.lt_of_lt_of_le hg hb.size
      simp only [keys] at hr hk
      rw [List.length_append, List.length_cons] at hk
      have hsz := size_any (hl.grow hb hb.size) il
      obtain ⟨s, hs⟩ : ∃ s, siz l' = s := ⟨_, rfl⟩
      rw [hs] at hsz
      have hs2 : (keys l').length = s := hs
      have hs3 : s < 576460752303423400 := by omega
      by_cases he : j = s
      · subst he
        rw [← hs2, at_mid] at hr
        obtain ⟨rfl, rfl⟩ := Prod.mk.inj hr
        clear hr hk hkl hv hl hrr il ir hs hs2
        go_wp2_with (go_at_call 39; (with_reducible refine hsz.mono ?_); clear hsz; rintro e w1 ⟨rfl, rfl⟩)
        go_ret2
        exact ⟨rfl, hb⟩
      · by_cases hlt : j < s
        · rw [at_low _ _ _ (by omega)] at hr
          have hd := Lib.hid (show (keys l').length < gk ∧ at_ (keys l') j = (y, f) ∧ (keys l').length ≤ l.length from ⟨by omega, hr, by omega⟩)
          clear hr hk hv hrr ir hs hs2 hkl
          go_wp2_with (go_at_call 39; (with_reducible refine hsz.mono ?_); clear hsz; rintro e w1 ⟨rfl, rfl⟩)
          go_roundg (keys l').length
          case measure => exact hd.out.1
          case rel => exact ⟨j, l', c, rfl, rfl, hl, il, hd.out.2.1, hj, rfl, hd.out.2.2, hb⟩
        · rw [at_high _ _ _ (by omega), hs2] at hr
          have hd := Lib.hid (show (keys r).length < gk ∧ at_ (keys r) (j - (s + 1)) = (y, f) ∧ (keys r).length ≤ l.length from ⟨by omega, hr, by omega⟩)
          have hj2 : (s : Int) + 1 ≤ j := by omega
          clear hr hk hv hl il hs hs2 hkl
          go_wp2_with (go_at_call 39; (with_reducible refine hsz.mono ?_); clear hsz; rintro e w1 ⟨rfl, rfl⟩)
          go_roundg (keys r).length
          case measure => exact hd.out.1
          case rel => exact ⟨j - (s + 1), r, d, rfl, rfl, hrr, ir, hd.out.2.1, by omega, rfl, hd.out.2.2, hb⟩
end Go.Proofs.Ytbdmccokdbfkpaa.wbt
