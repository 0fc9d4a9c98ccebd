/- Package ral: Ints and Sizes. -/
import Derived.Test.YtkenocamlaaajaaRal
import Derived.Test.YtkenocamlaaajaaSame
import Derived.Maps.AppendAt
import Derived.OwnWalk
namespace Go.Proofs.Ytkenocamlaaajaa.ral
open Go Go.RowKit Go.Proofs.Ytkenocamlaaajaa.sk

/-- what has been collected: a row of the call's own, in a box of its own -/
def Coll (w : World) (B N : Nat) (pre : List Int) (W : World) : Prop :=
  Below w.heap.size w W ∧ w.heap.size ≤ B ∧ ∃ g, hp.Blk W B 22 [.slice (some ⟨g, 0, none⟩) pre.length N] ∧ W.ownsRow w.heap.size 3 1 (.slice (some ⟨g, 0, none⟩) pre.length N) pre.length (pre.map (Value.int .i64))

theorem add_any {w : World} {B N : Nat} {pre : List Int} {W : World} (x : Int) (h : Coll w B N pre W) (hN : pre.length < N) :
    Calls Try.prog 51 #[.int .i64 x, .pointer (some ⟨B, 0, none⟩)] W fun e W' => e = .returned (.tuple #[]) ∧ Coll w B N (pre ++ [x]) W' := by
  obtain ⟨hb, hB, g, hk, hrow⟩ := h
  obtain ⟨i0, hi, hz0, hz1, hz2⟩ := info_parts same.infoInt
  have hd := hk.cell 0
  simp only [List.getElem?_cons_zero] at hd
  go_enter Try.func51, Try.ntmps51
  go_wp2_with (at_builtin; refine wpList_append_fits _ rfl _ _ 22 rfl w.heap.size 3 i0 1 Try.underlying22 hi hz1 g pre.length N _ rfl (hrow.alloc _) ⟨W.heap.size, 0, none⟩ 1 1 [.int .i64 x] rfl rfl (cell_one_new _ _ _) (by simp [Value.oneCell']) hN ?_; intro w2 hown' hgrow; have hk2 : hp.Blk w2 B 22 [.slice (some ⟨g, 0, none⟩) pre.length N] := hk.grown (by decide) hrow hgrow; have c0 := hk2.cell 0; have cf := hk2.free 0; simp only [List.getElem?_cons_zero] at c0)
  go_end0
  refine ⟨rfl, ((hb.alloc hb.size _).grown hgrow (by have := hb.size; simp; omega) (fun k hk => (hrow.lt k hk).1)).setCell hB _, hB, g, ?_, ?_⟩
  · rw [List.length_append]
    exact hk2.set 0 _
  · have := hp.row_set (o := 0) hown' hk2 (by decide) (.slice (some ⟨g, 0, none⟩) (pre.length + 1) N)
    simpa using this

/-- the function value that collects -/
abbrev adder (B : Nat) : Value := .func (.func 51) #[] #[.pointer (some ⟨B, 0, none⟩)]

set_option maxHeartbeats 4000000 in
theorem each_any {w : World} {B N : Nat} : ∀ (k : Nat) (p : Option Addr) (xs pre : List Int) (W : World), Nod w.heap.size w k p xs → pre.length + xs.length ≤ N → Coll w B N pre W →
    Calls Try.prog 52 #[.pointer p, adder B] W fun e W' => e = .returned (.tuple #[]) ∧ Coll w B N (pre ++ xs) W' := by
  intro k
  induction k with
  | zero =>
    rintro p xs pre W ⟨rfl, rfl⟩ hN hC
    go_enter Try.func52, Try.ntmps52
    go_wp2_with fail
    refine bodyPost_ret (v := .tuple #[]) (by simp [results, Try.results52, go_sem]) rfl ⟨rfl, by rw [List.append_nil]; exact hC⟩
  | succ m ih =>
    intro p xs pre W hn hN hC
    obtain ⟨b, n1, n2, y, us, vs, rfl, hb, hk, rfl, h1, h2⟩ := hn
    rw [List.length_cons, List.length_append] at hN
    have c0 : W.cell? ⟨b, 0, none⟩ = _ := (hk.below hC.1 hb).cell 0
    have c1 : ∀ W', Below w.heap.size w W' → W'.cell? ⟨b, 1, none⟩ = _ := fun W' h => (hk.below h hb).cell 1
    have c2 : ∀ W', Below w.heap.size w W' → W'.cell? ⟨b, 2, none⟩ = _ := fun W' h => (hk.below h hb).cell 2
    simp only [List.getElem?_cons_zero, List.getElem?_cons_succ] at c0 c1 c2
    have a1 := add_any y hC (by omega)
    have a2 := fun W' => ih n1 us (pre ++ [y]) W' h1 (by simp; omega)
    have a3 := fun W' => ih n2 vs (pre ++ [y] ++ us) W' h2 (by simp; omega)
    clear ih hN hC hk h1 h2
    go_enter Try.func52, Try.ntmps52
    go_wp2_with (first
      | (go_at_call 51; refine a1.mono ?_; rintro e w1 ⟨rfl, hC1⟩; have d1 := c1 _ hC1.1; clear a1 c1 c0)
      | (go_at_call 52; refine (a2 _ hC1).mono ?_; rintro e w2 ⟨rfl, hC2⟩; have d2 := c2 _ hC2.1; clear a2 c2 d1)
      | (go_at_call 52; refine (a3 _ hC2).mono ?_; rintro e w3 ⟨rfl, hC3⟩))
    go_end0
    exact ⟨rfl, by simpa using hC3⟩

set_option maxHeartbeats 4000000 in
theorem ints_own (v : Value) (l : List Int) (w : World) (hv : IsRal w w.heap.size v l) (hbd : l.length ≤ 35184372088832) :
    Calls Try.prog 33 #[v] w fun e w' => (∃ u, e = .returned u ∧ w'.ownsRow w.heap.size 3 1 u l.length (l.map (Value.int .i64))) ∧ Below w.heap.size w w' := by
  have hv' := hv
  obtain ⟨p, ts, rfl, hc, hf, -, -⟩ := hv'
  obtain ⟨i0, hi, hz0, hz1, hz2⟩ := info_parts same.infoInt
  have hA := hp.Blk.new w [.pointer p] 60
  have hb0 : Below w.heap.size w (w.alloc (.cells #[.pointer p] 60)) := by
    ((repeat' (first | with_reducible exact Below.refl _ _ | with_reducible apply Below.setCell | with_reducible apply below_drewN | with_reducible apply Below.drew | with_reducible apply Below.alloc | with_reducible refine Below.trans ?_ (Below.mono (by assumption) ?_))) <;> (first | (simp; done) | (simp; omega) | omega))
  have hlen := len_any _ l _ (hv.on hb0) (by omega)
  clear hv
  go_enter Try.func33, Try.ntmps33
  go_wp2_with (first
    | (go_at_call 50; refine hlen.mono ?_; rintro e wl ⟨rfl, hbl⟩; have hA2 := hA.on hbl; have hb2 := hb0.trans (hbl.mono hb0.size))
    | (at_make; refine wpList_make_own _ rfl _ _ 22 rfl w.heap.size 3 i0 (.int .i64 0) 1 Try.underlying22 hi hz0 hz1 .i64 .i64 _ l.length rfl rfl rfl (by rw [hz2]; omega) (by unfold maxLen; omega) (by have := hb2.size; omega) ?_; intro w1 hown1 hgrow1; have hb1 := (Below.refl _ _).grown hgrow1 (Nat.le_refl _) (fun k e => by cases e); have hA1 := hA2.on hb1; have c0 := hA1.cell 0; have hlt1 := hA1.lt; simp only [List.getElem?_cons_zero] at c0))
  have hbA := hb2.trans (hb1.mono hb2.size)
  have hC0 : Coll w w1.heap.size l.length [] (w1.alloc (.cells #[.slice (some ⟨wl.heap.size, 0, none⟩) 0 l.length] 22)) :=
    ⟨hbA.alloc hbA.size _, hbA.size, wl.heap.size, hp.Blk.newAt (cs := [.slice (some ⟨wl.heap.size, 0, none⟩) 0 l.length]) rfl, hown1.alloc _⟩
  clear hlen hbl hA2 hA1 hgrow1 hown1 hb1 c0 hA hb0
  go_loopw [5] (fun c W => ∃ pre q us, c = .pointer q ∧ l = pre ++ flat us ∧ Coll w w1.heap.size l.length pre W ∧ Trs w.heap.size w q us) (fun c _ => left w.heap.size w c)
  case atStart => exact ⟨[], p, ts, rfl, by rw [hf]; rfl, hC0, hc⟩
  case round =>
    clear hC0 hc hf
    obtain ⟨pre, q, us, rfl, hl, hC, hq⟩ := hrel
    have hle := left_eq hq
    rcases us with _ | ⟨⟨k, xs⟩, us⟩
    · obtain rfl : q = none := hq
      obtain rfl : l = pre := by simpa [flat_nil] using hl
      obtain ⟨hb, hB, g, hk, hrow⟩ := hC
      have hd := hk.cell 0
      simp only [List.getElem?_cons_zero] at hd
      clear hl
      go_wp2_with fail
      go_ret
      exact ⟨⟨_, rfl, hrow⟩, hb⟩
    · obtain ⟨b, r, q', rfl, hbb, hk, hr, hq'⟩ := hq
      have hr' := left_eq hq'
      have c1 : ∀ W', Below w.heap.size w W' → W'.cell? ⟨b, 1, none⟩ = _ := fun W' h => (hk.below h hbb).cell 1
      have c2 : ∀ W', Below w.heap.size w W' → W'.cell? ⟨b, 2, none⟩ = _ := fun W' h => (hk.below h hbb).cell 2
      simp only [List.getElem?_cons_zero, List.getElem?_cons_succ] at c1 c2
      have d1 := c1 _ hC.1
      rw [flat_cons] at hl
      have hea := each_any (k + 1) r xs pre _ hr (by rw [hl]; simp) hC
      replace hl := Lib.hid hl
      clear hk hr c1
      go_wp2_with (go_at_call 52; refine hea.mono ?_; rintro e w3 ⟨rfl, hC3⟩; have d2 := c2 _ hC3.1; clear c2 d1)
      go_roundw
      case rel => exact ⟨pre ++ xs, q', us, rfl, by rw [List.append_assoc]; exact hl.out, hC3, hq'⟩
      case measure => rw [hr']; simp at hle; omega

theorem ints_any (v : Value) (l : List Int) (w : World) (hv : IsRal w w.heap.size v l) (hbd : l.length ≤ 35184372088832) :
    Calls Try.prog 33 #[v] w fun e w' => (∃ u, e = .returned u ∧ hp.IsInts w' w'.heap.size u l) ∧ Below w.heap.size w w' :=
  (ints_own v l w hv hbd).mono fun _ _ ⟨⟨u, he, hu⟩, hb⟩ => ⟨⟨u, he, hp.IsInts.of_owns hu rfl hv.wf⟩, hb⟩

/-- the heights of the trees as numbers of elements -/
def dgs (ks : List Nat) : List Int := ks.map fun k => dg (k + 1)

end Go.Proofs.Ytkenocamlaaajaa.ral
