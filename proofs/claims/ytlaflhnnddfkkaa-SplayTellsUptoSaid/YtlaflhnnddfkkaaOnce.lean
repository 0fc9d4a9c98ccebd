/- wattleworkref1: Often, Once, Sifted. -/
import Derived.Test.YtlaflhnnddfkkaaSorted
import Derived.Test.YtlaflhnnddfkkaaSch
namespace Go.Proofs.Ytlaflhnnddfkkaa.same
open Go Go.RowKit
open Go.Proofs.Ytlaflhnnddfkkaa.sch

/-- how often a number is in a list -/
def oft (l : List Int) (a : Int) : Nat := l.countP fun x => decide (x = a)
theorem oft_snoc (l : List Int) (x a : Int) : oft (l ++ [x]) a = oft l a + if x = a then 1 else 0 := by
  simp [oft, List.countP_append, List.countP_cons]
theorem oft_zero {l : List Int} {a : Int} : oft l a = 0 ↔ a ∉ l := by
  unfold oft
  rw [List.countP_eq_zero]
  constructor
  · intro h hm
    have := h a hm
    simp at this
  · intro h x hx
    simp only [decide_eq_true_eq]
    rintro rfl
    exact h hx
theorem oft_le (l : List Int) (a : Int) : oft l a ≤ l.length := List.countP_le_length

set_option maxHeartbeats 4000000 in
theorem often_any (v : Value) (l : List Int) (a : Int) (w : World) (hv : hp.IsInts w w.heap.size v l) :
    Calls Try.prog 19 #[v, .int .i64 a] w fun e w' => e = .returned (.int .i64 (oft l a)) ∧ Below w.heap.size w w' := by
  obtain ⟨a0, c0, rfl, _, m0, _, hc0⟩ := hv
  go_enter Try.func19, Try.ntmps19
  go_wp2_with fail
  go_loop [5, 6] (fun c i => ∃ k m : Nat, i = .int .i64 k ∧ c = .int .i64 m ∧ k ≤ l.length ∧ m ≤ k ∧ Hid (m = oft (l.take k) a)) (fun _ i => l.length - (intOf i).toNat)
  case atStart => exact ⟨0, 0, rfl, rfl, by omega, by omega, by show _ = _; simp [oft]⟩
  case round =>
    obtain ⟨k, m, rfl, rfl, hk, hm, H⟩ := hrel
    by_cases hlt : k < l.length
    · obtain ⟨b0, o0, rfl, hb0, hd0⟩ := hc0 (by omega)
      have hx : w.cell? ⟨b0, o0 + k, none⟩ = some (.int .i64 (l.getD k 0)) := hd0 k hlt
      have s0 := Lib.hid (take_snoc l k hlt)
      clear hd0 hc0
      obtain ⟨x, hx0⟩ : ∃ x, x = l.getD k 0 := ⟨_, rfl⟩
      rw [← hx0] at hx s0
      clear hx0
      by_cases hxa : x = a
      · subst hxa
        go_wp2_with fail
        go_round
        case rel => exact ⟨k + 1, m + 1, by go_num, by go_num, by omega, by omega, by show _ = _; rw [s0.out, oft_snoc, if_pos rfl]; have := H.out; omega⟩
        case measure => simp [intOf]; omega
      · go_wp2_with fail
        go_round
        case rel => exact ⟨k + 1, m, by go_num, rfl, by omega, by omega, by show _ = _; rw [s0.out, oft_snoc, if_neg hxa]; have := H.out; omega⟩
        case measure => simp [intOf]; omega
    · obtain rfl : k = l.length := by omega
      go_wp2_with fail
      go_ret
      have he : m = oft l a := by have := H.out; rwa [List.take_length] at this
      subst he
      exact ⟨rfl, Below.refl _ _⟩

theorem ins_put {x : Int} : ∀ {l : List Int}, Asc l → x ∉ l → put l (cnt l x) x = ins x l
  | [], _, _ => by simp [put, ins]
  | y :: l, h, hx => by
    obtain ⟨h1, h2⟩ := List.pairwise_cons.1 h
    simp only [List.mem_cons, not_or] at hx
    by_cases hy : y < x
    · have hc : cnt (y :: l) x = cnt l x + 1 := by simp [cnt, List.countP_cons, hy]
      rw [hc]
      show (y :: put l (cnt l x) x) = ins x (y :: l)
      rw [ins_put h2 hx.2]
      unfold ins
      rw [if_neg (by omega), if_neg hx.1]
      cases l <;> rfl
    · have hc : cnt (y :: l) x = 0 := by
        unfold cnt
        rw [List.countP_eq_zero]
        intro z hz
        rcases List.mem_cons.1 hz with rfl | hz
        · simpa using hy
        · have := h1 z hz
          simp
          omega
      rw [hc]
      show (x :: y :: l) = ins x (y :: l)
      unfold ins
      rw [if_pos (by omega)]

set_option maxHeartbeats 4000000 in
/-- wattleworkref1.Once -/
theorem once_own {v : Value} {l : List Int} {w : World} (hv : hp.IsInts w w.heap.size v l) (hbd : l.length < 17592186044416) :
    Calls Try.prog 13 #[v] w fun e w' => (∃ u, e = .returned u ∧ w'.ownsRow w.heap.size 3 1 u (uniq l).length ((uniq l).map (Value.int .i64))) ∧ Below w.heap.size w w' := by
  obtain ⟨ad, cap, rfl, hn, hm, hwf, hcell⟩ := hv
  go_enter Try.func13, Try.ntmps13
  go_wp2_with fail
  go_loopw [3, 4] (fun u i wr => ∃ k : Nat, i = .int .i64 k ∧ k ≤ l.length ∧ Below w.heap.size w wr ∧ wr.ownsRow w.heap.size 3 1 u (uniq (l.take k)).length ((uniq (l.take k)).map (Value.int .i64))) (fun _ i _ => l.length - (intOf i).toNat)
  case atStart => exact ⟨0, rfl, Nat.zero_le _, Below.refl _ _, World.ownsRow_nil _ _ _ _⟩
  case round =>
    rename_i u3 u4
    obtain ⟨k, rfl, hk, hb, hown⟩ := hrel
    have hu := hp.IsInts.of_owns hown rfl (uniq_wf (fun y hy => hwf y (List.mem_of_mem_take hy)))
    by_cases hlt : k < l.length
    · obtain ⟨b, off, rfl, hbb, hce⟩ := hcell (by omega)
      have hwx : (Lit.int .i64 (l.getD k 0)).wf = true := hwf _ (by simp [hlt])
      have s0 := take_snoc l k hlt
      have hcx : ∀ W, Below w.heap.size w W → W.cell? ⟨b, off + k, none⟩ = some (.int .i64 (l.getD k 0)) := fun W hW => (hW.cell (p := ⟨b, off + k, none⟩) hbb).trans (hce k hlt)
      obtain ⟨x, hx⟩ : ∃ x, l.getD k 0 = x := ⟨_, rfl⟩
      rw [hx] at hcx hwx s0
      have hsl : (uniq (l.take k)).length ≤ k := by have := uniq_le (l.take k); simp at this; omega
      have hsn := uniq_snoc (l.take k) x
      rw [← s0] at hsn
      have hasc := uniq_asc (l.take k)
      obtain ⟨S, hS⟩ : ∃ S, uniq (l.take k) = S := ⟨_, rfl⟩
      rw [hS] at hu hown hsn hsl hasc
      obtain ⟨T, hT⟩ : ∃ T, uniq (l.take (k + 1)) = T := ⟨_, rfl⟩
      rw [hT] at hsn
      replace hT := Lib.hid hT
      have hoft := fun W (hW : Below wr.heap.size wr W) => often_any u3 S x W (hu.on hW)
      have lb := Nat.lt_of_lt_of_le hbb hb.size
      have c0 := hcx _ hb
      by_cases hin : x ∈ S
      · rw [ins_same hasc hin] at hsn
        have ho := mt oft_zero.1 (Classical.not_not.2 hin)
        obtain ⟨q, hq⟩ : ∃ q, oft S x = q := ⟨_, rfl⟩
        rw [hq] at ho hoft
        have hq2 : q ≤ S.length := by rw [← hq]; exact oft_le _ _
        have ho2 : ¬ ((q : Int) = 0) := by omega
        have hu0 := hu
        obtain ⟨a3, c3, rfl, -⟩ := hu0
        clear hcell hce hwf hx s0 hwx hS hasc hin hq ho
        replace hsn := Lib.hid hsn
        go_wp2_with (go_at_call 19; with_reducible refine (hoft _ (Below.refl _ _)).mono ?_; clear hoft; rintro e w1 ⟨rfl, hb1⟩)
        go_roundw
        case rel => exact ⟨k + 1, by go_num, by omega, hb.trans (hb1.mono hb.size), by rw [hT.out, hsn.out]; exact hp.row_on hown hb1⟩
        case measure => simp [intOf]; omega
      · rw [oft_zero.2 hin] at hoft
        rw [← ins_put hasc hin] at hsn
        obtain ⟨c, hc⟩ : ∃ c, cnt S x = c := ⟨_, rfl⟩
        have hcl : c ≤ S.length := by rw [← hc]; exact cnt_le _ _
        have hbel := fun W (hW : Below wr.heap.size wr W) => below_any u3 S x W (hu.on hW)
        have hwith := fun W (hW : Below wr.heap.size wr W) => with_own (i := c) (hu.on hW) hcl hwx (by omega)
        rw [hc] at hsn hbel
        rw [← hsn] at hwith
        obtain ⟨a3, c3, rfl, -⟩ := hu
        have hcy : ∀ W, Below wr.heap.size wr W → W.cell? ⟨b, off + k, none⟩ = some (.int .i64 x) := fun W hW => hcx W (hb.trans (hW.mono hb.size))
        clear hcell hce hwf hx s0 hwx hsn hc hcl hS hasc hin hcx
        replace hsl := Lib.hid hsl
        go_wp2_with (go_at_call 19; with_reducible refine (hoft _ (Below.refl _ _)).mono ?_; clear hoft; rintro e w1 ⟨rfl, hb1⟩)
        have hbo := hb.size
        apply rel.region_tail (C := fun w' => Below wr.heap.size wr w') (X := fun w w' => Below w.heap.size w w') 12 (by kernel_rfl) (by kernel_rfl) (by kernel_rfl) (by kernel_rfl) (hb1.drew)
        (apply rel.walk_val; (focus (intro wq hq hf; go_wp2; refine ⟨hq, Below.refl _ _, ?_, rfl⟩; (show rel.slot _ _ = _; simp only [rel.slot_lit, List.getD_cons_succ, List.getD_cons_zero]; (first | done | exact rfl)))); (simp only [rel.put_lit, List.set_cons_succ, List.set_cons_zero]))
        (apply rel.walk_val; (focus (intro wq hq hf; go_wp2; refine ⟨hq, Below.refl _ _, ?_, rfl⟩; (show rel.slot _ _ = _; simp only [rel.slot_lit, List.getD_cons_succ, List.getD_cons_zero]; (first | done | exact rfl)))); (simp only [rel.put_lit, List.set_cons_succ, List.set_cons_zero]))
        (apply rel.walk_val; (focus (intro wq hq hf; go_wp2; refine ⟨hq, Below.refl _ _, ?_, rfl⟩; (show rel.slot _ _ = _; simp only [rel.slot_lit, List.getD_cons_succ, List.getD_cons_zero]; (first | done | exact rfl)))); (simp only [rel.put_lit, List.set_cons_succ, List.set_cons_zero]))
        (apply rel.walk_val; (focus (intro wq hq hf; go_wp2; refine ⟨hq, Below.refl _ _, ?_, rfl⟩; (show rel.slot _ _ = _; simp only [rel.slot_lit, List.getD_cons_succ, List.getD_cons_zero]; (first | done | exact rfl)))); (simp only [rel.put_lit, List.set_cons_succ, List.set_cons_zero]))
        (apply rel.walk_val; (focus (intro wq hq hf; go_wp2; refine ⟨hq, Below.refl _ _, ?_, rfl⟩; (show rel.slot _ _ = _; simp only [rel.slot_lit, List.getD_cons_succ, List.getD_cons_zero]; (first | done | exact rfl)))); (simp only [rel.put_lit, List.set_cons_succ, List.set_cons_zero]))
        ((apply rel.walk_val; (focus (intro wq hq hf; (have d0 := (hq.cell (p := ⟨b, off + k, none⟩) lb).trans c0); go_wp2; refine ⟨hq, Below.refl _ _, ?_, rfl⟩; (show rel.slot _ _ = _; simp only [rel.slot_lit, List.getD_cons_succ, List.getD_cons_zero]; (first | done | exact rfl)))); (simp only [rel.put_lit, List.set_cons_succ, List.set_cons_zero])))
        (apply rel.walk_val; (focus (intro wq hq hf; go_wp2_with (go_at_call 43; refine (hbel _ hq).mono ?_; rintro e w'' ⟨rfl, hb⟩); refine ⟨hq.trans (hb.mono hq.size), hb, ?_, rfl⟩; (show rel.slot _ _ = _; simp only [rel.slot_lit, List.getD_cons_succ, List.getD_cons_zero]; (first | done | exact rfl)))); (simp only [rel.put_lit, List.set_cons_succ, List.set_cons_zero]))
        (apply rel.walk_val; (focus (intro wq hq hf; go_wp2; refine ⟨hq, Below.refl _ _, ?_, rfl⟩; (show rel.slot _ _ = _; simp only [rel.slot_lit, List.getD_cons_succ, List.getD_cons_zero]; (first | done | exact rfl)))); (simp only [rel.put_lit, List.set_cons_succ, List.set_cons_zero]))
        (apply rel.walk_val; (focus (intro wq hq hf; go_wp2; refine ⟨hq, Below.refl _ _, ?_, rfl⟩; (show rel.slot _ _ = _; simp only [rel.slot_lit, List.getD_cons_succ, List.getD_cons_zero]; (first | done | exact rfl)))); (simp only [rel.put_lit, List.set_cons_succ, List.set_cons_zero]))
        (apply rel.walk_val; (focus (intro wq hq hf; go_wp2; refine ⟨hq, Below.refl _ _, ?_, rfl⟩; (show rel.slot _ _ = _; simp only [rel.slot_lit, List.getD_cons_succ, List.getD_cons_zero]; (first | done | exact rfl)))); (simp only [rel.put_lit, List.set_cons_succ, List.set_cons_zero]))
        ((apply rel.walk_val; (focus (intro wq hq hf; (have d0 := (hq.cell (p := ⟨b, off + k, none⟩) lb).trans c0); go_wp2; refine ⟨hq, Below.refl _ _, ?_, rfl⟩; (show rel.slot _ _ = _; simp only [rel.slot_lit, List.getD_cons_succ, List.getD_cons_zero]; (first | done | exact rfl)))); (simp only [rel.put_lit, List.set_cons_succ, List.set_cons_zero])))
        (apply rel.walk_rel (fun u w' => w'.ownsRow (w.heap.size) 3 1 u (T : List Int).length ((T : List Int).map (Value.int .i64))) ⟨_, rfl⟩ (fun u w1 w2 h1 h2 => hp.row_on h2 h1); (focus (intro wq hq hf; go_wp2_with (go_at_call 42; with_reducible refine (hwith _ hq).mono ?_; rintro e w'' ⟨⟨u, rfl, hu⟩, hb⟩); refine ⟨hq.trans (hb.mono hq.size), hb, ?_, rfl⟩; (show World.ownsRow _ _ _ _ (rel.slot _ _) _ _; simp only [rel.slot_lit, List.getD_cons_succ, List.getD_cons_zero]; exact same.row_base hu (Nat.le_trans hbo hq.size)))); (intro u wu _ hu; (obtain ⟨a_o, c_o, rfl⟩ : ∃ a c, u = .slice a (T : List Int).length c := by rcases hu.2 with ⟨h, h0⟩ | ⟨g, cap, cur, h, _⟩; exact ⟨none, 0, by rw [h, h0]⟩; exact ⟨_, _, h⟩); (simp only [rel.put_lit, List.set_cons_succ, List.set_cons_zero])))
        refine rel.walk_nil ?_
        intro w9 K9 hF
        have hu : w9.ownsRow w.heap.size 3 1 (.slice a_o T.length c_o) T.length (T.map (Value.int .i64)) := hF _ (List.mem_cons_self ..)
        clear hF hbel hwith hcy
        simp only [List.drop_succ_cons, List.drop_zero]
        go_wp2
        go_roundw
        case rel => exact ⟨k + 1, by go_num, by omega, hb.trans (K9.mono hb.size), by rw [hT.out]; exact hu⟩
        case measure => simp [intOf]; omega
    · obtain rfl : k = l.length := by omega
      rw [List.take_length] at hown
      clear hu
      go_wp2_with fail
      go_ret
      exact ⟨⟨_, rfl, hown⟩, hb⟩

theorem once_any {v : Value} {l : List Int} {w : World} (hv : hp.IsInts w w.heap.size v l) (hbd : l.length < 17592186044416) :
    Calls Try.prog 13 #[v] w fun e w' => (∃ u, e = .returned u ∧ hp.IsInts w' w'.heap.size u (uniq l)) ∧ Below w.heap.size w w' :=
  (once_own hv hbd).mono fun _ _ ⟨⟨u, he, hu⟩, hb⟩ => ⟨⟨u, he, hp.IsInts.of_owns hu rfl (uniq_wf hv.wf)⟩, hb⟩

theorem del_snoc (x y : Int) (l : List Int) : del x (l ++ [y]) = if y = x then del x l else del x l ++ [y] := by
  unfold del
  rw [List.filter_append]
  by_cases h : y = x
  · rw [if_pos h, List.filter_cons_of_neg (by simpa using h)]; simp
  · rw [if_neg h, List.filter_cons_of_pos (by simpa using h)]; simp

set_option maxHeartbeats 4000000 in
/-- wattleworkref1.Sifted: a list without a number -/
theorem sifted_own {v u0 : Value} {l : List Int} {x : Int} {w : World} (hv : hp.IsInts w w.heap.size v l) (hu0 : hp.IsInts w w.heap.size u0 [x]) (hbd : l.length < 17592186044416) :
    Calls Try.prog 11 #[v, u0, .bool false] w fun e w' => (∃ u, e = .returned u ∧ w'.ownsRow w.heap.size 3 1 u (del x l).length ((del x l).map (Value.int .i64))) ∧ Below w.heap.size w w' := by
  have hof1 : ∀ y, oft [x] y = if y = x then 1 else 0 := fun y => by
    by_cases h : y = x
    · rw [if_pos h, h]; simp [oft]
    · rw [if_neg h]; simp [oft]; omega
  obtain ⟨L1, hL1⟩ : ∃ L1, [x] = L1 := ⟨_, rfl⟩
  rw [hL1] at hu0 hof1
  clear hL1
  have hof := fun W y (hW : Below w.heap.size w W) => often_any u0 L1 y W (hu0.on hW)
  obtain ⟨ax, cx, rfl, -⟩ := hu0
  obtain ⟨ad, cap, rfl, hn, hm, hwf, hcell⟩ := hv
  have hwd := Lib.hid (del_wf (x := x) hwf)
  go_enter Try.func11, Try.ntmps11
  go_wp2_with fail
  go_loopw [7, 8] (fun u i wr => ∃ k : Nat, i = .int .i64 k ∧ k ≤ l.length ∧ Below w.heap.size w wr ∧ wr.ownsRow w.heap.size 3 1 u (del x (l.take k)).length ((del x (l.take k)).map (Value.int .i64))) (fun _ i _ => l.length - (intOf i).toNat)
  case atStart => exact ⟨0, rfl, Nat.zero_le _, Below.refl _ _, World.ownsRow_nil _ _ _ _⟩
  case round =>
    rename_i u3 u4
    obtain ⟨k, rfl, hk, hb, hu⟩ := hrel
    by_cases hlt : k < l.length
    · obtain ⟨b, off, rfl, hbb, hce⟩ := hcell (by omega)
      have hwy : (Lit.int .i64 (l.getD k 0)).wf = true := hwf _ (by simp [hlt])
      have s0 := take_snoc l k hlt
      have hcx : ∀ W, Below w.heap.size w W → W.cell? ⟨b, off + k, none⟩ = some (.int .i64 (l.getD k 0)) := fun W hW => (hW.cell (p := ⟨b, off + k, none⟩) hbb).trans (hce k hlt)
      obtain ⟨y, hy⟩ : ∃ y, l.getD k 0 = y := ⟨_, rfl⟩
      rw [hy] at hcx hwy s0
      have hsl : (del x (l.take k)).length ≤ k := by have := del_le x (l.take k); simp at this; omega
      have hsn := del_snoc x y (l.take k)
      rw [← s0] at hsn
      obtain ⟨S, hS⟩ : ∃ S, del x (l.take k) = S := ⟨_, rfl⟩
      rw [hS] at hu hsn hsl
      obtain ⟨T, hT⟩ : ∃ T, del x (l.take (k + 1)) = T := ⟨_, rfl⟩
      rw [hT] at hsn
      replace hT := Lib.hid hT
      have c0 := hcx _ hb
      have lb := Nat.lt_of_lt_of_le hbb hb.size
      have hoft := hof wr y hb
      by_cases hin : y = x
      · rw [if_pos hin] at hsn
        rw [hof1, if_pos hin] at hoft
        replace hsn := Lib.hid hsn
        clear hcell hce hwf hy s0 hwy hS hof hof1 hcx hin
        go_wp2_with (go_at_call 19; with_reducible refine hoft.mono ?_; clear hoft; rintro e w1 ⟨rfl, hb1⟩)
        go_roundw
        case rel => exact ⟨k + 1, by go_num, by omega, hb.trans (hb1.mono hb.size), by rw [hT.out, hsn.out]; exact hp.row_on hu hb1⟩
        case measure => simp [intOf]; omega
      · rw [if_neg hin] at hsn
        rw [hof1, if_neg hin] at hoft
        replace hsn := Lib.hid hsn
        obtain ⟨n, hnn⟩ : ∃ n, S.length = n := ⟨_, rfl⟩
        rw [hnn] at hu hsl
        replace hnn := Lib.hid hnn
        clear hcell hce hwf hy s0 hS hof hof1
        have hn20 : n + 1 ≤ 17592186044416 := by omega
        go_wp2_with (first
          | (go_at_call 19; with_reducible refine hoft.mono ?_; clear hoft; rintro e w1 ⟨rfl, hb1⟩; replace hb := hb.trans (hb1.mono hb.size); replace hu := hp.row_on hu hb1; clear c0 lb hb1; have c0 := hcx _ hb; have lb := Nat.lt_of_lt_of_le hbb hb.size)
          | (at_builtin; refine hp.append_ints rfl _ _ 22 rfl w.heap.size 3 Try.underlying22 infoInt _ n S rfl (hu.alloc _) _ [y] rfl (hp.IsInts.of_owns (hp.row_one w1 y) rfl (by simpa using hwy)) (by simp; omega) (by have := hb.size; simp; omega) ?_; intro u2 w2 own2 gr2))
        go_roundw
        case rel => exact ⟨k + 1, by go_num, by omega, (hb.alloc hb.size _).grown gr2 (by have := hb.size; simp; omega) (fun k hk => (hu.lt k hk).1), by rw [hT.out, hsn.out, List.length_append, hnn.out]; simpa using own2⟩
        case measure => simp [intOf]; omega
    · obtain rfl : k = l.length := by omega
      rw [List.take_length] at hu
      go_wp2_with fail
      go_ret
      exact ⟨⟨_, rfl, hu⟩, hb⟩
end Go.Proofs.Ytlaflhnnddfkkaa.same
