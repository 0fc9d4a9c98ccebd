/- Package treap: sets. -/
import Derived.Test.YtlaflhnnddfkkaaTrpMerge
import Derived.Test.YtlaflhnnddfkkaaSchDist
import Derived.Test.YtlaflhnnddfkkaaInts
namespace Go.Proofs.Ytlaflhnnddfkkaa.trp
open Go Go.RowKit
open Go.Proofs.Ytlaflhnnddfkkaa.sch
set_option linter.unusedVariables false

abbrev tyH : TypeId := 55

/-- a set of these numbers, its trees below block B -/
def IsSet (w : World) (B : Nat) (v : Value) (K : List Int) : Prop := ∃ p t, v = rv p K.length ∧ Nod B w t p ∧ Tp t ∧ keys t = K ∧ Asc K ∧ ∀ x ∈ K, (Lit.int .i64 x).wf = true

section
variable {w w' : World} {B B' : Nat} {v : Value} {l : List Int}
theorem IsSet.below (h : IsSet w B v l) (hb : Below B w w') : IsSet w' B v l := by
  obtain ⟨p, r, hv, hc, hw⟩ := h
  exact ⟨p, r, hv, hc.below hb, hw⟩
theorem IsSet.keep (h : IsSet w B v l) (hb : Keep w w') : IsSet w' B v l := by
  obtain ⟨p, r, hv, hc, hw⟩ := h
  exact ⟨p, r, hv, hc.keep hb, hw⟩
theorem IsSet.mono (h : IsSet w B v l) (hB : B ≤ B') : IsSet w B' v l := by
  obtain ⟨p, r, hv, hc, hw⟩ := h
  exact ⟨p, r, hv, hc.mono hB, hw⟩
theorem IsSet.on (h : IsSet w w.heap.size v l) (hb : Below w.heap.size w w') : IsSet w' w'.heap.size v l := (h.below hb).mono hb.size
theorem IsSet.wf (h : IsSet w B v l) : ∀ x ∈ l, (Lit.int .i64 x).wf = true := by obtain ⟨_, _, _, _, _, _, _, hw⟩ := h; exact hw
theorem IsSet.asc (h : IsSet w B v l) : Asc l := by obtain ⟨_, _, _, _, _, _, ha, _⟩ := h; exact ha
theorem IsSet.nil (w : World) (B : Nat) : IsSet w B (rv none 0) [] := ⟨none, .nil, rfl, rfl, trivial, rfl, Asc.nil, by simp⟩
theorem IsSet.val (h : IsSet w B v l) : ∃ p, v = rv p l.length := by obtain ⟨p, _, hv, _⟩ := h; exact ⟨p, hv⟩
end
theorem isSet_of {w : World} {p : Option Addr} {K : List Int} (h : IsG w (.pointer p) (Good K)) (ha : Asc K) (hw : ∀ x ∈ K, (Lit.int .i64 x).wf = true) : IsSet w w.heap.size (rv p K.length) K := by
  obtain ⟨q, t, hu, hn, hi, hk⟩ := h
  cases hu
  exact ⟨p, t, rfl, hn, hi, hk, ha, hw⟩

/-- a set goes into a variable of the call's own -/
theorem stored {w W : World} {g : Nat} {a b : Value} {p : Option Addr} {l : List Int} {k : Int} (hk : k = (l.length : Int)) (hR : hp.Blk W g tyH [a, b]) (hg : w.heap.size ≤ g) (hb : Below w.heap.size w W) (h : IsSet W W.heap.size (rv p l.length) l) :
    ∃ W', (W.setCell ⟨g, 0, none⟩ (.pointer p)).setCell ⟨g, 1, none⟩ (.int .i64 k) = W' ∧ hp.Blk W' g tyH [.pointer p, .int .i64 l.length] ∧ IsSet W' W'.heap.size (rv p l.length) l ∧ Below w.heap.size w W' ∧ Keep W W' ∧ W'.heap.size = W.heap.size ∧ (∀ b t cs, b ≠ g → hp.Blk W b t cs → hp.Blk W' b t cs) := by
  subst hk
  have hK := (Keep.of_set (o := 0) hR (by decide) (.pointer p)).trans (Keep.of_set (o := 1) (hR.set 0 (.pointer p)) (by decide) (.int .i64 l.length))
  exact ⟨_, rfl, hR.set2 _ _, (h.keep hK).mono (by simp), (hb.setCell (by simpa using hg) _).setCell (by simpa using hg) _, hK, by simp, fun b t cs hne hk => (hk.other hne _).other hne _⟩

set_option maxHeartbeats 4000000 in
theorem set_has {v : Value} {l : List Int} {x : Int} {w : World} {b : Bool} (hv : IsSet w w.heap.size v l) (hb : b = decide (x ∈ l)) :
    Calls Try.prog 39 #[v, .int .i64 x] w fun e w' => e = .returned (.bool b) ∧ Below w.heap.size w w' := by
  obtain ⟨p, t, rfl, hn, -, hk, ha, -⟩ := hv
  have hcl := fun W (hW : Below w.heap.size w W) => has_raw (x := x) (b := b) (hn.grow hW hW.size) (by rw [hk]; exact ha) (by rw [hk]; exact hb)
  clear hn hk ha hb
  go_enter Try.func39, Try.ntmps39
  go_wp2_with (go_at_call 45; with_reducible refine (hcl _ ((Below.refl _ _).alloc (Nat.le_refl _) _)).mono ?_; clear hcl; rintro e w1 ⟨rfl, hb⟩)
  go_ret
  exact ⟨rfl, Below.trans ((Below.refl _ _).alloc (Nat.le_refl _) _) (hb.mono (by simp))⟩

set_option maxHeartbeats 8000000 in
theorem of_any {v : Value} {l : List Int} {w : World} (hv : hp.IsInts w w.heap.size v l) (hbd : l.length < 4398046511104) :
    Calls Try.prog 58 #[v] w fun e w' => (∃ q, e = .returned (rv q (uniq l).length) ∧ IsSet w' w'.heap.size (rv q (uniq l).length) (uniq l)) ∧ Below w.heap.size w w' := by
  have hwf := uniq_wf hv.wf
  have hlu := uniq_le l
  have hau := uniq_asc l
  have hb0 : Below w.heap.size w (w.alloc (.cells #[.pointer none, .int .i64 0] tyH)) := by
    ((repeat' (first | with_reducible exact Below.refl _ _ | with_reducible apply Below.setCell | with_reducible apply below_drewN | with_reducible apply Below.drew | with_reducible apply Below.alloc | with_reducible refine Below.trans ?_ (Below.mono (by assumption) ?_))) <;> (first | (simp; done) | (simp; omega) | omega))
  have hH0 : hp.Blk (w.alloc (.cells #[.pointer none, .int .i64 0] tyH)) w.heap.size tyH [.pointer none, .int .i64 0] := hp.Blk.newAt rfl
  have hdi := distinct_any (hv.on hb0) (by omega)
  obtain ⟨U, hU⟩ : ∃ U, uniq l = U := ⟨_, rfl⟩
  rw [hU] at hwf hlu hau hdi ⊢
  have hdone : Hid (∀ W q, IsG W (.pointer q) (Good U) → IsSet W W.heap.size (rv q U.length) U) := Lib.hid fun W q h => isSet_of h hau hwf
  obtain ⟨ad, cap, rfl, -⟩ := hv
  have hUl : U.length < 4398046511104 := by omega
  clear hU hwf hlu hau hbd
  go_enter Try.func58, Try.ntmps58
  go_wp2_with (go_at_call 49; (with_reducible refine hdi.mono ?_); clear hdi; rintro e w1 ⟨⟨u, rfl, hu⟩, hb1⟩; have hH := hH0.on hb1; have hb2 := hb0.trans (hb1.mono hb0.size); clear hb1 hH0 hb0; have hu1 := hu; obtain ⟨a1, c1, rfl, -⟩ := hu1)
  have hG0 : Gr (w1.alloc (.cells #[.slice none 0 0, .pointer none] tyG)) w1.heap.size w1.heap.size none (U.take 0) .nil := ⟨[], _, none, ⟨hp.Blk.newAt rfl, World.ownsRow_nil _ _ _ _, Nat.le_refl _, rfl, by simp, rfl⟩, trivial, rfl⟩
  have hB0 : Below w1.heap.size w1 (w1.alloc (.cells #[.slice none 0 0, .pointer none] tyG)) := by ((repeat' (first | with_reducible exact Below.refl _ _ | with_reducible apply Below.setCell | with_reducible apply below_drewN | with_reducible apply Below.drew | with_reducible apply Below.alloc | with_reducible refine Below.trans ?_ (Below.mono (by assumption) ?_))) <;> (first | (simp; done) | (simp; omega) | omega))
  go_loopg [11] U.length (fun k u W' => ∃ (i : Nat) (r : Option Nat), u = .int .i64 ((i : Nat) : Int) ∧ i ≤ U.length ∧ k = U.length - i ∧ Gr W' w1.heap.size w1.heap.size r (U.take i) .nil ∧ Below w1.heap.size w1 W')
  case atStart => exact ⟨0, none, rfl, Nat.zero_le _, rfl, hG0, hB0⟩
  case round =>
    clear hG0 hB0
    obtain ⟨i, r, rfl, hi, hk, hG, hB⟩ := hrel
    by_cases hiu : i = U.length
    · subst hiu
      rw [List.take_length] at hG
      have hwh := whole_any hG hUl
      have hbw : ∀ W2, Chg w1.heap.size r wr W2 → Below w1.heap.size w1 W2 := fun W2 h => hB.trans (h.below (Nat.le_refl _) hG.ge hB.size)
      clear hG hk hi hu
      go_wp2_with (go_at_call 85; (with_reducible refine hwh.mono ?_); clear hwh; rintro e w3 ⟨⟨u, rfl, hu⟩, hc3⟩; have hb3 := hbw _ hc3; clear hc3 hbw hB; have hH3 := hH.on hb3; obtain ⟨p, t, rfl, hu3⟩ := hu; have hu : IsG w3 (.pointer p) (Good U) := ⟨p, t, rfl, hu3⟩; clear hu3; obtain ⟨d0, d1⟩ := hH3.cells2; have f0 := hH3.free 0; have f1 := hH3.free 1; have l1 := hH3.lt)
      obtain ⟨W9, hW9, hS, hQ, hB9, -⟩ := stored (k := (U.length : Int)) rfl hH3 (Nat.le_refl _) (hb2.trans (hb3.mono hb2.size)) (hdone.out _ _ hu)
      rw [hW9]
      obtain ⟨g0, g1⟩ := hS.cells2
      refine bodyPost_ret (v := rv p U.length) (by simp [results, Try.results58, go_sem, g0, g1]) rfl ⟨⟨_, rfl, hQ⟩, hB9⟩
    · have hlt : i < U.length := by omega
      obtain ⟨g, off, rfl, hg, hcell⟩ := hu.at (by omega)
      have c0 := (hB.cell (p := ⟨g, off + i, none⟩) hg).trans (hcell i hlt)
      have hg2 := Nat.lt_of_lt_of_le hg hB.size
      have hnil : mkLt .nil (prio (U.getD i 0)) := trivial
      have hadd := add_any hG hnil (by simp; omega) hB.size
      have htk : U.take i ++ [U.getD i 0] = U.take (i + 1) := by
        rw [List.take_add_one]
        simp [hlt]
      rw [htk] at hadd
      have hbw : ∀ W2, Chg w1.heap.size r wr W2 → Below w1.heap.size w1 W2 := fun W2 h => hB.trans (h.below (Nat.le_refl _) hG.ge hB.size)
      clear hcell hG htk
      generalize U.getD i 0 = x at *
      go_wp2_with (go_at_call 84; (with_reducible refine hadd.mono ?_); clear hadd; rintro e w3 ⟨rfl, ⟨r', hG3, -⟩, hc3⟩; have hb3 := hbw _ hc3)
      go_roundg (U.length - (i + 1))
      case measure => omega
      case rel => exact ⟨i + 1, r', by simp, by omega, rfl, hG3, hb3⟩

/-- the one cell of a row that a region has made -/
theorem one_of {w : World} {g : Nat} {b : Nat} {x : Int} (h : ∃ g', Value.slice (some ⟨g, 0, none⟩) 1 1 = Value.slice (some ⟨g', 0, none⟩) 1 1 ∧ b ≤ g' ∧ hp.Blk w g' 3 [.int .i64 x]) : hp.Blk w g 3 [.int .i64 x] := by
  obtain ⟨g', he, -, hk⟩ := h
  cases he
  exact hk

/-- what merged leaves: a tree, and how many both have -/
def IsM (w : World) (u : Value) (K : List Int) : Prop := ∃ q c, u = .tuple #[.pointer q, .int .i64 ((c : Nat) : Int)] ∧ IsG w (.pointer q) (Good K)
theorem IsM.on {w w' : World} {u : Value} {K : List Int} (h : IsM w u K) (hb : Below w.heap.size w w') : IsM w' u K := by
  obtain ⟨q, c, hu, hg⟩ := h
  exact ⟨q, c, hu, hg.on hb⟩
theorem good_of {w : World} {p : Option Addr} {n : Int} {K : List Int} (h : IsSet w w.heap.size (.agg #[.pointer p, .int .i64 n]) K) : IsG w (.pointer p) (Good K) := by
  obtain ⟨q, t, hv, hn, hi, hk, -⟩ := h
  simp only [rv, Value.agg.injEq, Array.mk.injEq, List.cons.injEq, Value.pointer.injEq] at hv
  obtain ⟨rfl, -⟩ := hv
  exact ⟨p, t, rfl, hn, hi, hk⟩

set_option maxHeartbeats 8000000 in
theorem set_union {v u : Value} {l m : List Int} {w : World} (hv : IsSet w w.heap.size v l) (hu : IsSet w w.heap.size u m) (hbd : l.length + m.length < 4398046511104) :
    Calls Try.prog 62 #[v, u] w fun e w' => (∃ q, e = .returned (rv q (mrg true l m).length) ∧ IsSet w' w'.heap.size (rv q (mrg true l m).length) (mrg true l m)) ∧ Below w.heap.size w w' := by
  obtain ⟨p, t, rfl, hn, hi, hk, ha, hw⟩ := hv
  obtain ⟨q, s, rfl, hn2, hi2, hk2, ha2, hw2⟩ := hu
  obtain ⟨Wa, hW0⟩ : ∃ Wa, (((w.alloc (.cells #[.pointer p, .int .i64 l.length] tyH)).alloc (.cells #[.pointer q, .int .i64 m.length] tyH)).alloc (.cells #[.pointer none, .int .i64 0] tyH)) = Wa := ⟨_, rfl⟩
  have hR : hp.Blk Wa (w.heap.size + 1 + 1) tyH [.pointer none, .int .i64 0] := by
    rw [← hW0]
    exact hp.Blk.newAt (by simp)
  have hB2 : hp.Blk Wa (w.heap.size + 1) tyH [.pointer q, .int .i64 m.length] := by
    rw [← hW0]
    exact (hp.Blk.newAt (by simp)).alloc _
  have hA : hp.Blk Wa w.heap.size tyH [.pointer p, .int .i64 l.length] := by
    rw [← hW0]
    exact ((hp.Blk.newAt (by simp)).alloc _).alloc _
  have hb0 : Below w.heap.size w Wa := by
    rw [← hW0]
    ((repeat' (first | with_reducible exact Below.refl _ _ | with_reducible apply Below.setCell | with_reducible apply below_drewN | with_reducible apply Below.drew | with_reducible apply Below.alloc | with_reducible refine Below.trans ?_ (Below.mono (by assumption) ?_))) <;> (first | (simp; done) | (simp; omega) | omega))
  have hcl := fun W (hW : Below w.heap.size w W) => merged_any (f := true) (hn.grow hW hW.size) (hn2.grow hW hW.size) hi hi2 (by rw [hk]; exact ha) (by rw [hk2]; exact ha2) (by rw [hk, hk2]; exact hbd)
  rw [hk, hk2] at hcl
  have hdone : Hid (∀ W q, IsG W (.pointer q) (Good (mrg true l m)) → IsSet W W.heap.size (rv q (mrg true l m).length) (mrg true l m)) := Lib.hid fun W q h => isSet_of h (mrg_asc _ _ _) (fun z hz => by
    rcases (mem_mrg.1 hz).1 with h | h
    · exact hw z h
    · exact hw2 z h)
  obtain ⟨c0, c1⟩ := hA.cells2
  obtain ⟨e0, e1⟩ := hB2.cells2
  have l0 := hA.lt
  have l2 := hB2.lt
  generalize mrg true l m = M at *
  generalize hN1 : l.length = n1 at *
  generalize hN2 : m.length = n2 at *
  clear hn hn2 hi hi2 hk hk2 ha ha2 hw hw2 hN1 hN2
  go_enter Try.func62, Try.ntmps62
  go_wp2_with (go_at_call 57; (with_reducible refine (hcl _ hb0).mono ?_); clear hcl; rintro e W2 ⟨⟨pz, cz, rfl, hz, hcz⟩, hb1⟩; replace hR := hR.on hb1; replace hA := hA.on hb1; replace hB2 := hB2.on hb1; have K := hb0.trans (hb1.mono hb0.size); clear c0 c1 e0 e1 l0 l2 hb1; obtain ⟨c0, c1⟩ := hA.cells2; obtain ⟨e0, e1⟩ := hB2.cells2; have l0 := hA.lt; have l2 := hB2.lt; obtain ⟨d0, d1⟩ := hR.cells2; have f0 := hR.free 0; have f1 := hR.free 1; have l1 := hR.lt; have hcz2 := hcz rfl)
  obtain ⟨W9, hW9, hS, hQ, hB, -⟩ := stored (k := (n1 : Int) + (n2 : Int) - (cz : Int)) (by omega) hR (by omega) K (hdone.out _ _ hz)
  rw [hW9]
  obtain ⟨g0, g1⟩ := hS.cells2
  refine bodyPost_ret (v := rv pz M.length) (by simp [results, Try.results62, go_sem, g0, g1]) rfl ⟨⟨_, rfl, hQ⟩, hB⟩

/-- a row of one number -/
theorem ints_one {w : World} {g : Nat} {x : Int} (h : hp.Blk w g 3 [.int .i64 x]) (hx : (Lit.int .i64 x).wf = true) : hp.IsInts w w.heap.size (.slice (some ⟨g, 0, none⟩) 1 1) [x] := by
  refine ⟨_, 1, rfl, ⟨(fun h => by cases h), by simp⟩, by simp, by simpa using hx, fun _ => ⟨g, 0, rfl, h.lt, fun k hk => ?_⟩⟩
  obtain rfl : k = 0 := by simpa using hk
  exact h.cell 0
theorem of_one {w : World} {g : Nat} {x : Int} (h : hp.Blk w g 3 [.int .i64 x]) (hx : (Lit.int .i64 x).wf = true) :
    Calls Try.prog 58 #[.slice (some ⟨g, 0, none⟩) 1 1] w fun e w' => (∃ u, e = .returned u ∧ IsSet w' w'.heap.size u [x]) ∧ Below w.heap.size w w' :=
  (of_any (ints_one h hx) (by simp)).mono fun e w' ⟨⟨q, he, hq⟩, hb⟩ => ⟨⟨_, he, hq⟩, hb⟩
theorem union_one {v u : Value} {l : List Int} {x : Int} {w : World} (hv : IsSet w w.heap.size v l) (hu : IsSet w w.heap.size u [x]) (hbd : l.length + 1 < 4398046511104) :
    Calls Try.prog 62 #[v, u] w fun e w' => (∃ u, e = .returned u ∧ IsSet w' w'.heap.size u (ins x l)) ∧ Below w.heap.size w w' := by
  refine (set_union hv hu (by simpa using hbd)).mono fun e w' ⟨⟨q, he, hq⟩, hb⟩ => ⟨⟨_, he, ?_⟩, hb⟩
  rw [mrg_ins hv.asc] at hq ⊢
  exact hq

set_option maxHeartbeats 8000000 in
theorem set_put {v : Value} {l : List Int} {x : Int} {w : World} (hv : IsSet w w.heap.size v l) (hx : (Lit.int .i64 x).wf = true) (hbd : l.length + 1 < 4398046511104) :
    Calls Try.prog 31 #[v, .int .i64 x] w fun e w' => (∃ q, e = .returned (rv q (ins x l).length) ∧ IsSet w' w'.heap.size (rv q (ins x l).length) (ins x l)) ∧ Below w.heap.size w w' := by
  have hv0 := hv
  obtain ⟨p, rfl⟩ := hv.val
  have ha := hv.asc
  clear hv
  obtain ⟨Wa, hW0⟩ : ∃ Wa, ((w.alloc (.cells #[.pointer p, .int .i64 l.length] tyH)).alloc (.cells #[.pointer none, .int .i64 0] tyH)) = Wa := ⟨_, rfl⟩
  have hR : hp.Blk Wa (w.heap.size + 1) tyH [.pointer none, .int .i64 0] := by
    rw [← hW0]
    exact hp.Blk.newAt (by simp)
  have hA : hp.Blk Wa w.heap.size tyH [.pointer p, .int .i64 l.length] := by
    rw [← hW0]
    exact (hp.Blk.newAt (by simp)).alloc _
  have hb0 : Below w.heap.size w Wa := by
    rw [← hW0]
    ((repeat' (first | with_reducible exact Below.refl _ _ | with_reducible apply Below.setCell | with_reducible apply below_drewN | with_reducible apply Below.drew | with_reducible apply Below.alloc | with_reducible refine Below.trans ?_ (Below.mono (by assumption) ?_))) <;> (first | (simp; done) | (simp; omega) | omega))
  have hhas := fun W (hW : Below w.heap.size w W) => set_has (x := x) (b := decide (x ∈ l)) (hv0.on hW) rfl
  have hv1 := hv0.on hb0
  by_cases hm : x ∈ l
  · have hsame : ins x l = l := ins_same ha hm
    rw [hsame]
    rw [show decide (x ∈ l) = true by simpa using hm] at hhas
    obtain ⟨c0, c1⟩ := hA.cells2
    obtain ⟨d0, d1⟩ := hR.cells2
    have f0 := hR.free 0
    have f1 := hR.free 1
    obtain ⟨N, hN⟩ : ∃ N : Int, (l.length : Int) = N := ⟨_, rfl⟩
    replace hv0 := Lib.hid hv0
    clear ha hbd hm hsame
    rw [hN] at c1 hA hW0
    simp only [rv, hN] at hhas
    rw [show rv p l.length = .agg #[.pointer p, .int .i64 N] by rw [← hN]]
    replace hN := Lib.hid hN
    have K := hb0
    go_enter Try.func31, Try.ntmps31
    go_wp2_with (go_at_call 39; with_reducible refine (hhas _ hb0).mono ?_; clear hhas; rintro e w1 ⟨rfl, hb1⟩; replace hA := hA.on hb1; replace hR := hR.on hb1; replace hv1 := hv1.on hb1; replace K := hb0.trans (hb1.mono hb0.size); clear c0 c1 d0 d1 f0 f1; obtain ⟨c0, c1⟩ := hA.cells2; obtain ⟨d0, d1⟩ := hR.cells2; have f0 := hR.free 0; have f1 := hR.free 1; clear hb1)
    obtain ⟨W9, hW9, hS, hQ, hB, -⟩ := stored (k := N) hN.out.symm hR (by omega) K hv1
    rw [hW9]
    obtain ⟨g0, g1⟩ := hS.cells2
    refine bodyPost_ret (v := rv p l.length) (by simp [results, Try.results31, go_sem, g0, g1]) rfl ⟨⟨_, rfl, hQ⟩, hB⟩
  · rw [show decide (x ∈ l) = false by simpa using hm] at hhas
    have hun := fun W u (hs : IsSet W W.heap.size (rv p l.length) l) (hu : IsSet W W.heap.size u [x]) => union_one hs hu hbd
    have hlen := ins_len ha hm
    obtain ⟨M, hM⟩ : ∃ M, ins x l = M := ⟨_, rfl⟩
    rw [hM] at hlen hun ⊢
    obtain ⟨N, hN⟩ : ∃ N : Int, (l.length : Int) = N := ⟨_, rfl⟩
    have hof := fun W g (h : hp.Blk W g 3 [.int .i64 x]) => of_one h hx
    have hst := fun W (hW : Below Wa.heap.size Wa W) => hv1.on hW
    rw [hN] at hA hW0
    simp only [rv, hN] at hhas hun hst
    rw [show rv p l.length = .agg #[.pointer p, .int .i64 N] by rw [← hN]]
    replace hN := Lib.hid hN
    replace hlen := Lib.hid hlen
    clear ha hbd hm hv0 hv1 hM
    have K := hb0
    obtain ⟨c0, c1⟩ := hA.cells2
    go_enter Try.func31, Try.ntmps31
    go_wp2_with (go_at_call 39; with_reducible refine (hhas _ hb0).mono ?_; clear hhas; rintro e W0 ⟨rfl, hb1⟩; replace hA := hA.on hb1; replace hR := hR.on hb1; replace K := hb0.trans (hb1.mono hb0.size); clear c0 c1 hb0 hW0)
    apply rel.region_tail (C := fun w' => Below W0.heap.size W0 w') (X := fun w w' => Below w.heap.size w w') 5 (by kernel_rfl) (by kernel_rfl) (by kernel_rfl) (by kernel_rfl) ((Below.refl W0.heap.size W0).drew)
    ((apply rel.walk_val; (focus (intro wq hq hf; (obtain ⟨d0, d1⟩ := ((hA).below hq (hA).lt).cells2); go_wp2; refine ⟨hq, Below.refl _ _, ?_, rfl⟩; (show rel.slot _ _ = _; simp only [rel.slot_lit, List.getD_cons_succ, List.getD_cons_zero]; (first | done | exact rfl)))); (simp only [rel.put_lit, List.set_cons_succ, List.set_cons_zero])))
    (apply rel.walk_val; (focus (intro wq hq hf; go_wp2; refine ⟨hq, Below.refl _ _, ?_, rfl⟩; (show rel.slot _ _ = _; simp only [rel.slot_lit, List.getD_cons_succ, List.getD_cons_zero]; (first | done | exact rfl)))); (simp only [rel.put_lit, List.set_cons_succ, List.set_cons_zero]))
    (apply rel.walk_rel (fun u w' => ∃ g, u = .slice (some ⟨g, 0, none⟩) 1 1 ∧ W0.heap.size ≤ g ∧ hp.Blk w' g 3 [.int .i64 x]) ⟨_, rfl⟩ (fun u w1 w2 h1 h2 => by obtain ⟨g, he, hl, hk⟩ := h2; exact ⟨g, he, hl, hk.on h1⟩); (focus (intro wq hq hf; go_wp2; refine ⟨hq.alloc hq.size _, (Below.refl _ _).alloc (Nat.le_refl _) _, ?_, rfl⟩; (show ∃ g, rel.slot _ _ = _ ∧ _; simp only [rel.slot_lit, List.getD_cons_succ, List.getD_cons_zero]; exact ⟨_, rfl, hq.size, hp.Blk.new _ _ _⟩))); (intro u wu _ hu; obtain ⟨po, rfl, -, -⟩ := hu; (simp only [rel.put_lit, List.set_cons_succ, List.set_cons_zero])))
    (apply rel.walk_rel (fun u w' => trp.IsSet w' w'.heap.size u ([x])) ⟨_, rfl⟩ (fun u w1 w2 h1 h2 => h2.on h1); (focus (intro wq hq hf; go_wp2_with (go_at_call 58; with_reducible refine (hof _ _ (one_of (hf.get 0 rfl rfl))).mono ?_; rintro e w'' ⟨⟨u, rfl, hu⟩, hb⟩); refine ⟨hq.trans (hb.mono hq.size), hb, ?_, rfl⟩; (show trp.IsSet _ _ (rel.slot _ _) _; simp only [rel.slot_lit, List.getD_cons_succ, List.getD_cons_zero]; exact hu))); (intro u wu _ hu; obtain ⟨pof, t_pof, rfl, -⟩ := hu; (simp only [rel.put_lit, List.set_cons_succ, List.set_cons_zero])))
    (apply rel.walk_rel (fun u w' => trp.IsSet w' w'.heap.size u (M)) ⟨_, rfl⟩ (fun u w1 w2 h1 h2 => h2.on h1); (focus (intro wq hq hf; go_wp2_with (go_at_call 62; with_reducible refine (hun _ _ (hst _ (hb1.trans (hq.mono hb1.size))) (hf.get 0 rfl rfl)).mono ?_; rintro e w'' ⟨⟨u, rfl, hu⟩, hb⟩); refine ⟨hq.trans (hb.mono hq.size), hb, ?_, rfl⟩; (show trp.IsSet _ _ (rel.slot _ _) _; simp only [rel.slot_lit, List.getD_cons_succ, List.getD_cons_zero]; exact hu))); (intro u wu _ hu; obtain ⟨pz, t_pz, rfl, -⟩ := hu; (simp only [rel.put_lit, List.set_cons_succ, List.set_cons_zero])))
    refine rel.walk_nil ?_
    intro w9 K9 hF
    have hu : IsSet w9 w9.heap.size (rv pz M.length) M := hF _ (List.mem_cons_self ..)
    have hR9 := hR.on K9
    obtain ⟨d0, d1⟩ := hR9.cells2
    have f0 := hR9.free 0
    have f1 := hR9.free 1
    clear hF
    simp only [List.drop_succ_cons, List.drop_zero]
    go_wp2
    obtain ⟨W9, hW9, hS, hQ, hB, -⟩ := stored (k := (M.length : Int)) rfl hR9 (by omega) (K.trans (K9.mono K.size)) hu
    rw [hW9]
    obtain ⟨g0, g1⟩ := hS.cells2
    refine bodyPost_ret (v := rv pz M.length) (by simp [results, Try.results31, go_sem, g0, g1]) rfl ⟨⟨_, rfl, hQ⟩, hB⟩

theorem merged_one {w : World} {p q : Option Addr} {t : Tr} {x : Int} (hn : Nod w.heap.size w t p) (hi : Tp t) (ha : Asc (keys t)) (hx : x ∈ keys t) (hq : IsG w (.pointer q) (Good [x])) (hbd : (keys t).length + 1 < 4398046511104) :
    Calls Try.prog 57 #[.pointer p, .pointer q, .bool false] w fun e w' => (∃ u, e = .returned u ∧ IsM w' u (del x (keys t))) ∧ Below w.heap.size w w' := by
  obtain ⟨_, s, he, hn2, hi2, hk2⟩ := hq
  cases he
  refine (merged_any (f := false) hn hn2 hi hi2 ha (by rw [hk2]; simp [Asc]) (by rw [hk2]; simpa using hbd)).mono ?_
  rintro e w' ⟨⟨q', c, rfl, hg, -⟩, hb⟩
  rw [hk2, mrg_del ha hx] at hg
  exact ⟨⟨_, rfl, q', c, rfl, hg⟩, hb⟩

set_option maxRecDepth 100000 in
set_option maxHeartbeats 8000000 in
theorem set_drop {v : Value} {l : List Int} {x : Int} {w : World} (hv : IsSet w w.heap.size v l) (hx : (Lit.int .i64 x).wf = true) (hbd : l.length + 1 < 4398046511104) :
    Calls Try.prog 27 #[v, .int .i64 x] w fun e w' => (∃ q, e = .returned (rv q (del x l).length) ∧ IsSet w' w'.heap.size (rv q (del x l).length) (del x l)) ∧ Below w.heap.size w w' := by
  have hv0 := hv
  obtain ⟨p, t, rfl, hn, hi, hk, ha, hw⟩ := hv
  obtain ⟨Wa, hW0⟩ : ∃ Wa, ((w.alloc (.cells #[.pointer p, .int .i64 l.length] tyH)).alloc (.cells #[.pointer none, .int .i64 0] tyH)) = Wa := ⟨_, rfl⟩
  have hR : hp.Blk Wa (w.heap.size + 1) tyH [.pointer none, .int .i64 0] := by
    rw [← hW0]
    exact hp.Blk.newAt (by simp)
  have hA : hp.Blk Wa w.heap.size tyH [.pointer p, .int .i64 l.length] := by
    rw [← hW0]
    exact (hp.Blk.newAt (by simp)).alloc _
  have hb0 : Below w.heap.size w Wa := by
    rw [← hW0]
    ((repeat' (first | with_reducible exact Below.refl _ _ | with_reducible apply Below.setCell | with_reducible apply below_drewN | with_reducible apply Below.drew | with_reducible apply Below.alloc | with_reducible refine Below.trans ?_ (Below.mono (by assumption) ?_))) <;> (first | (simp; done) | (simp; omega) | omega))
  have hhas := fun W (hW : Below w.heap.size w W) => set_has (x := x) (b := decide (x ∈ l)) (hv0.on hW) rfl
  have hv1 := hv0.on hb0
  by_cases hm : x ∉ l
  · have hsame : del x l = l := del_same hm
    rw [hsame]
    rw [show decide (x ∈ l) = false by simpa using hm] at hhas
    obtain ⟨c0, c1⟩ := hA.cells2
    obtain ⟨d0, d1⟩ := hR.cells2
    have f0 := hR.free 0
    have f1 := hR.free 1
    obtain ⟨N, hN⟩ : ∃ N : Int, (l.length : Int) = N := ⟨_, rfl⟩
    replace hv0 := Lib.hid hv0
    clear hn hi hk ha hw hbd hm hsame
    rw [hN] at c1 hA hW0
    simp only [rv, hN] at hhas
    rw [show rv p l.length = .agg #[.pointer p, .int .i64 N] by rw [← hN]]
    replace hN := Lib.hid hN
    have K := hb0
    go_enter Try.func27, Try.ntmps27
    go_wp2_with (go_at_call 39; with_reducible refine (hhas _ hb0).mono ?_; clear hhas; rintro e w1 ⟨rfl, hb1⟩; replace hA := hA.on hb1; replace hR := hR.on hb1; replace hv1 := hv1.on hb1; replace K := hb0.trans (hb1.mono hb0.size); clear c0 c1 d0 d1 f0 f1; obtain ⟨c0, c1⟩ := hA.cells2; obtain ⟨d0, d1⟩ := hR.cells2; have f0 := hR.free 0; have f1 := hR.free 1; clear hb1)
    obtain ⟨W9, hW9, hS, hQ, hB, -⟩ := stored (k := N) hN.out.symm hR (by omega) K hv1
    rw [hW9]
    obtain ⟨g0, g1⟩ := hS.cells2
    refine bodyPost_ret (v := rv p l.length) (by simp [results, Try.results27, go_sem, g0, g1]) rfl ⟨⟨_, rfl, hQ⟩, hB⟩
  · have hmem : x ∈ l := Classical.not_not.1 hm
    rw [show decide (x ∈ l) = true by simpa using hmem] at hhas
    have hmg := fun W q (hW : Below w.heap.size w W) (hq : IsG W (.pointer q) (Good [x])) => merged_one (x := x) (hn.grow hW hW.size) hi (by rw [hk]; exact ha) (by rw [hk]; exact hmem) hq (by rw [hk]; exact hbd)
    rw [hk] at hmg
    have hlen := del_len ha hmem
    have hdone : Hid (∀ W q, IsG W (.pointer q) (Good (del x l)) → IsSet W W.heap.size (rv q (del x l).length) (del x l)) := Lib.hid fun W q h => isSet_of h (del_asc x ha) (del_wf hw)
    obtain ⟨M, hM⟩ : ∃ M, del x l = M := ⟨_, rfl⟩
    rw [hM] at hlen hmg hdone ⊢
    obtain ⟨N, hN⟩ : ∃ N : Int, (l.length : Int) = N := ⟨_, rfl⟩
    have hof := fun W g (h : hp.Blk W g 3 [.int .i64 x]) => of_one h hx
    rw [hN] at hA hW0
    have hN2 : 0 ≤ N ∧ N < 4398046511104 := by omega
    have hNM := Lib.hid (show N - 1 = (M.length : Int) by omega)
    obtain ⟨hN3, hN4⟩ := hN2
    simp only [rv, hN] at hhas
    rw [show rv p l.length = .agg #[.pointer p, .int .i64 N] by rw [← hN]]
    replace hN := Lib.hid hN
    clear ha hbd hm hmem hv0 hv1 hM hn hi hk hw hlen
    have K := hb0
    obtain ⟨c0, c1⟩ := hA.cells2
    go_enter Try.func27, Try.ntmps27
    go_wp2_with (go_at_call 39; with_reducible refine (hhas _ hb0).mono ?_; clear hhas; rintro e W0 ⟨rfl, hb1⟩; replace hA := hA.on hb1; replace hR := hR.on hb1; replace K := hb0.trans (hb1.mono hb0.size); clear c0 c1 hb0 hW0)
    apply rel.region (C := fun w' => Below W0.heap.size W0 w') (X := fun w w' => Below w.heap.size w w') (by kernel_rfl) (by kernel_rfl) (by kernel_rfl) ((Below.refl _ _).drew)
    (apply rel.walk_val; (focus (intro wq hq hf; go_wp2; refine ⟨hq, Below.refl _ _, ?_, rfl⟩; (show rel.slot _ _ = _; simp only [rel.slot_lit, List.getD_cons_succ, List.getD_cons_zero]; (first | done | exact rfl)))); (simp only [rel.put_lit, List.set_cons_succ, List.set_cons_zero]))
    ((apply rel.walk_val; (focus (intro wq hq hf; (obtain ⟨d0, d1⟩ := ((hA).below hq (hA).lt).cells2); go_wp2; refine ⟨hq, Below.refl _ _, ?_, rfl⟩; (show rel.slot _ _ = _; simp only [rel.slot_lit, List.getD_cons_succ, List.getD_cons_zero]; (first | done | exact rfl)))); (simp only [rel.put_lit, List.set_cons_succ, List.set_cons_zero])))
    (apply rel.walk_val; (focus (intro wq hq hf; go_wp2; refine ⟨hq, Below.refl _ _, ?_, rfl⟩; (show rel.slot _ _ = _; simp only [rel.slot_lit, List.getD_cons_succ, List.getD_cons_zero]; (first | done | exact rfl)))); (simp only [rel.put_lit, List.set_cons_succ, List.set_cons_zero]))
    (apply rel.walk_rel (fun u w' => ∃ g, u = .slice (some ⟨g, 0, none⟩) 1 1 ∧ W0.heap.size ≤ g ∧ hp.Blk w' g 3 [.int .i64 x]) ⟨_, rfl⟩ (fun u w1 w2 h1 h2 => by obtain ⟨g, he, hl, hk⟩ := h2; exact ⟨g, he, hl, hk.on h1⟩); (focus (intro wq hq hf; go_wp2; refine ⟨hq.alloc hq.size _, (Below.refl _ _).alloc (Nat.le_refl _) _, ?_, rfl⟩; (show ∃ g, rel.slot _ _ = _ ∧ _; simp only [rel.slot_lit, List.getD_cons_succ, List.getD_cons_zero]; exact ⟨_, rfl, hq.size, hp.Blk.new _ _ _⟩))); (intro u wu _ hu; obtain ⟨po, rfl, -, -⟩ := hu; (simp only [rel.put_lit, List.set_cons_succ, List.set_cons_zero])))
    (apply rel.walk_rel (fun u w' => trp.IsSet w' w'.heap.size u ([x])) ⟨_, rfl⟩ (fun u w1 w2 h1 h2 => h2.on h1); (focus (intro wq hq hf; go_wp2_with (go_at_call 58; with_reducible refine (hof _ _ (one_of (hf.get 0 rfl rfl))).mono ?_; rintro e w'' ⟨⟨u, rfl, hu⟩, hb⟩); refine ⟨hq.trans (hb.mono hq.size), hb, ?_, rfl⟩; (show trp.IsSet _ _ (rel.slot _ _) _; simp only [rel.slot_lit, List.getD_cons_succ, List.getD_cons_zero]; exact hu))); (intro u wu _ hu; obtain ⟨pof, t_pof, rfl, -⟩ := hu; (simp only [rel.put_lit, List.set_cons_succ, List.set_cons_zero])))
    (apply rel.walk_rel (fun u w' => sch.IsG w' u (Good [x])) ⟨_, rfl⟩ (fun u w1 w2 h1 h2 => h2.on h1); (focus (intro wq hq hf; have h0 := good_of (hf.get 0 rfl rfl); go_wp2; rename_i hK9; refine hK9 _ _ ?_; refine ⟨hq, Below.refl _ _, ?_, rfl⟩; (show sch.IsG wq (Value.pointer pof) (Good [x]); exact h0))); (intro u wu _ hu; obtain ⟨pf, t_f, rfl, -⟩ := hu; (simp only [rel.put_lit, List.set_cons_succ, List.set_cons_zero])))
    (apply rel.walk_rel (fun u w' => trp.IsM w' u (M)) ⟨_, rfl⟩ (fun u w1 w2 h1 h2 => h2.on h1); (focus (intro wq hq hf; go_wp2_with (go_at_call 57; with_reducible refine (hmg _ _ (K.trans (hq.mono K.size)) (hf.get 0 rfl rfl)).mono ?_; rintro e w'' ⟨⟨u, rfl, hu⟩, hb⟩); refine ⟨hq.trans (hb.mono hq.size), hb, ?_, rfl⟩; (show trp.IsM _ (rel.slot _ _) _; simp only [rel.slot_lit, List.getD_cons_succ, List.getD_cons_zero]; exact hu))); (intro u wu _ hu; obtain ⟨pz, c_pz, rfl, -⟩ := hu; (simp only [rel.put_lit, List.set_cons_succ, List.set_cons_zero])))
    (apply rel.walk_rel (fun u w' => trp.IsM w' u M) ⟨_, rfl⟩ (fun u w1 w2 h1 h2 => h2.on h1); (focus (intro wq hq hf; have h0 := hf.get 0 rfl rfl; go_wp2; refine ⟨hq, Below.refl _ _, ?_, rfl⟩; (show trp.IsM _ (rel.slot _ _) _; simp only [rel.slot_lit, List.getD_cons_succ, List.getD_cons_zero]; exact h0))); (intro u wu _ hu; obtain ⟨px, cx, rfl, -⟩ := hu; (simp only [rel.put_lit, List.set_cons_succ, List.set_cons_zero])))
    (apply rel.walk_rel (fun u w' => sch.IsG w' u (Good M)) ⟨_, rfl⟩ (fun u w1 w2 h1 h2 => h2.on h1); (focus (intro wq hq hf; (obtain ⟨q', c', he, h0⟩ := hf.get 0 rfl rfl); cases he; go_wp2; refine ⟨hq, Below.refl _ _, ?_, rfl⟩; (show sch.IsG _ (rel.slot _ _) _; simp only [rel.slot_lit, List.getD_cons_succ, List.getD_cons_zero]; exact h0))); (intro u wu _ hu; obtain ⟨py, t_y, rfl, -⟩ := hu; (simp only [rel.put_lit, List.set_cons_succ, List.set_cons_zero])))
    (apply rel.walk_rel (fun u w' => ∃ c : Int, u = .int .i64 c) ⟨_, rfl⟩ (fun u w1 w2 h1 h2 => h2); (focus (intro wq hq hf; skip; go_wp2; refine ⟨hq, Below.refl _ _, ?_, rfl⟩; (show ∃ c : Int, rel.slot _ _ = _; simp only [rel.slot_lit, List.getD_cons_succ, List.getD_cons_zero]; exact ⟨_, rfl⟩))); (intro u wu _ hu; obtain ⟨cy, rfl⟩ := hu; (simp only [rel.put_lit, List.set_cons_succ, List.set_cons_zero])))
    (apply rel.walk_rel (fun u w' => sch.IsG w' u (Good M)) ⟨_, rfl⟩ (fun u w1 w2 h1 h2 => h2.on h1); (focus (intro wq hq hf; have h0 := hf.get 1 rfl rfl; go_wp2; refine ⟨hq, Below.refl _ _, ?_, rfl⟩; (show sch.IsG _ (rel.slot _ _) _; simp only [rel.slot_lit, List.getD_cons_succ, List.getD_cons_zero]; exact h0))); (intro u wu _ hu; obtain ⟨pw, t_pw, rfl, -⟩ := hu; (simp only [rel.put_lit, List.set_cons_succ, List.set_cons_zero])))
    (apply rel.walk_rel (fun u w' => ∃ c : Int, u = .int .i64 c) ⟨_, rfl⟩ (fun u w1 w2 h1 h2 => h2); (focus (intro wq hq hf; skip; go_wp2; refine ⟨hq, Below.refl _ _, ?_, rfl⟩; (show ∃ c : Int, rel.slot _ _ = _; simp only [rel.slot_lit, List.getD_cons_succ, List.getD_cons_zero]; exact ⟨_, rfl⟩))); (intro u wu _ hu; obtain ⟨cw, rfl⟩ := hu; (simp only [rel.put_lit, List.set_cons_succ, List.set_cons_zero])))
    refine rel.walk_nil ?_
    intro w9 K9 hF
    have hu2 : IsG w9 (.pointer pw) (Good M) := hF _ (List.mem_cons_of_mem _ (List.mem_cons_self ..))
    have hR9 := hR.on K9
    have hA9 := hA.on K9
    obtain ⟨c0, c1⟩ := hA9.cells2
    obtain ⟨d0, d1⟩ := hR9.cells2
    have f0 := hR9.free 0
    have f1 := hR9.free 1
    clear hF
    go_wp2
    obtain ⟨W9, hW9, hS, hQ, hB, -⟩ := stored (k := N - 1) hNM.out hR9 (by omega) (K.trans (K9.mono K.size)) (hdone.out _ _ hu2)
    rw [hW9]
    obtain ⟨g0, g1⟩ := hS.cells2
    refine bodyPost_ret (v := rv pw M.length) (by simp [results, Try.results27, go_sem, g0, g1]) rfl ⟨⟨_, rfl, hQ⟩, hB⟩
end Go.Proofs.Ytlaflhnnddfkkaa.trp
