/- Package bino: Len. -/
import Derived.Test.YtdbipbmdpgccnaaBino
namespace Go.Proofs.Ytdbipbmdpgccnaa.bin
open Go Go.RowKit

theorem wrap_one {d L : Nat} (h : d ≤ L) (hL : L < 4611686018427387904) : wrap64 (d : Int) = d := wrap_small (by omega) (by omega)
theorem wrap_two {m d L k : Nat} (h : m + d ≤ L) (hL : L < 4611686018427387904) (hd : (2 : Int) ^ k = d) : wrap64 ((m : Int) + wrap64 ((2 : Int) ^ k)) = ((m + d : Nat) : Int) := by
  rw [hd, wrap_one (d := d) (Nat.le_trans (Nat.le_add_left d m) h) hL, ← Int.natCast_add, wrap_one h hL]

set_option maxHeartbeats 4000000 in
theorem len_any (v : Value) (l : List Int) (w : World) (hv : IsHeap w w.heap.size v l) (hbd : l.length < 4611686018427387904) :
    Calls Try.prog 15 #[v] w fun e w' => e = .returned (.int .i64 l.length) ∧ Below w.heap.size w w' := by
  obtain ⟨p, r, rfl, hc, hi, hp, -⟩ := hv
  go_enter Try.func15, Try.ntmps15
  go_wp2_with fail
  go_loopw [3, 4] (fun n c wr => ∃ m i : Nat, ∃ q us, n = .int .i64 m ∧ c = .pointer q ∧ m + (nums us).length = l.length ∧ Below w.heap.size w wr ∧ Row w.heap.size w us q ∧ Inc i us) (fun _ c _ => left w.heap.size w c)
  case atStart => exact ⟨0, 0, p, r, rfl, rfl, by rw [hp.length_eq]; omega, by ((repeat' (first | with_reducible exact Below.refl _ _ | with_reducible apply Below.setCell | with_reducible apply below_drewN | with_reducible apply Below.drew | with_reducible apply Below.alloc | with_reducible refine Below.trans ?_ (Below.mono (by assumption) ?_))) <;> (first | (simp; done) | (simp; omega) | omega)), hc, hi⟩
  case round =>
    clear hc hi hp
    obtain ⟨m, i, q, us, rfl, rfl, hm, hb, hq, hi⟩ := hrel
    have hle := left_eq hq
    rcases us with _ | ⟨x, k, b, n⟩
    · obtain rfl : q = none := hq
      obtain rfl : m = l.length := by simpa [nums] using hm
      go_wp2_with fail
      go_ret
      exact ⟨rfl, hb⟩
    · obtain ⟨g, h, cb, q', rfl, hg, hv, hh, hu, -, hn⟩ := hq
      obtain ⟨-, i2, i3⟩ := hi
      have hr' := left_eq hn
      have c0 := (hv.below hb hg).cell 0
      have c1 := (hv.below hb hg).cell 1
      have e1 := (hu.below hb hh).cell 1
      simp only [List.getElem?_cons_zero, List.getElem?_cons_succ] at c0 c1 e1
      have hk := i2.len
      have hln : (nums (.cons x k b n)).length = 2 ^ k + (nums n).length := by
        simp only [nums, List.length_cons, List.length_append]
        omega
      rw [hln] at hm
      have hk62 : k < 62 := small (n := 2 ^ k) (N := 62) (Nat.le_refl _) (by omega)
      obtain ⟨d, hd⟩ : ∃ d : Nat, 2 ^ k = d := ⟨_, rfl⟩
      rw [hd] at hm
      have hd2 : (2 : Int) ^ k = d := by rw [← hd]; simp
      have hw2 := wrap_two (m := m) (d := d) (L := l.length) (k := k) (by omega) hbd hd2
      have hmd : m + d + (nums n).length = l.length := by omega
      replace hw2 := Lib.hid hw2
      clear hv hu hk hln i2 hd2 hd
      go_wp2_with fail
      go_roundw
      case rel => exact ⟨m + d, k + 1, q', n, by rw [hw2.out], rfl, hmd, hb, hn, i3⟩
      case measure => rw [hr']; simp [ranks] at hle; omega
end Go.Proofs.Ytdbipbmdpgccnaa.bin
