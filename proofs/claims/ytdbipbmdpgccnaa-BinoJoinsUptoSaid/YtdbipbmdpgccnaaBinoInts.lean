/- Package bino: Ints and Ranks. -/
import Derived.Test.YtdbipbmdpgccnaaBinoOps
import Derived.Test.YtdbipbmdpgccnaaBinoLen
import Derived.Test.YtdbipbmdpgccnaaSame
import Derived.Test.YtdbipbmdpgccnaaSort
import Derived.Maps.AppendAt
import Derived.OwnWalk
namespace Go.Proofs.Ytdbipbmdpgccnaa.bin
open Go Go.RowKit

/-- what has been collected: a row of the call's own, in a box of its own -/
def Coll (w : World) (B N : Nat) (pre : List Int) (W : World) : Prop :=
  Below w.heap.size w W ∧ w.heap.size ≤ B ∧ ∃ g, hp.Blk W B 22 [.slice (some ⟨g, 0, none⟩) pre.length N] ∧ W.ownsRow w.heap.size 3 1 (.slice (some ⟨g, 0, none⟩) pre.length N) pre.length (pre.map (Value.int .i64))

theorem add_coll {w : World} {B N : Nat} {pre : List Int} {W : World} (x : Int) (h : Coll w B N pre W) (hN : pre.length < N) :
    Calls Try.prog 22 #[.int .i64 x, .pointer (some ⟨B, 0, none⟩)] W fun e W' => e = .returned (.tuple #[]) ∧ Coll w B N (pre ++ [x]) W' := by
  obtain ⟨hb, hB, g, hk, hrow⟩ := h
  obtain ⟨i0, hi, hz0, hz1, hz2⟩ := info_parts same.infoInt
  have hd := hk.cell 0
  simp only [List.getElem?_cons_zero] at hd
  go_enter Try.func22, Try.ntmps22
  go_wp2_with (at_builtin; refine wpList_append_fits _ rfl _ _ 22 rfl w.heap.size 3 i0 1 Try.underlying22 hi hz1 g pre.length N _ rfl (hrow.alloc _) ⟨W.heap.size, 0, none⟩ 1 1 [.int .i64 x] rfl rfl (cell_one_new _ _ _) (by simp [Value.oneCell']) hN ?_; intro w2 hown' hgrow; have hk2 : hp.Blk w2 B 22 [.slice (some ⟨g, 0, none⟩) pre.length N] := hk.grown (by decide) hrow hgrow; have c0 := hk2.cell 0; have cf := hk2.free 0; simp only [List.getElem?_cons_zero] at c0)
  go_end0
  refine ⟨rfl, ((hb.alloc hb.size _).grown hgrow (by have := hb.size; simp; omega) (fun k hk => (hrow.lt k hk).1)).setCell hB _, hB, g, ?_, ?_⟩
  · rw [List.length_append]
    exact hk2.set 0 _
  · have := hp.row_set (o := 0) hown' hk2 (by decide) (.slice (some ⟨g, 0, none⟩) (pre.length + 1) N)
    simpa using this

/-- the function value that collects -/
abbrev adder (B : Nat) : Value := .func (.func 22) #[] #[.pointer (some ⟨B, 0, none⟩)]

set_option maxHeartbeats 8000000 in
theorem each_any {w : World} {B N : Nat} : ∀ (n : Nat) (r : Rw) (p : Option Addr) (pre : List Int) (W : World), (nums r).length ≤ n → Row w.heap.size w r p → pre.length + (nums r).length ≤ N → Coll w B N pre W →
    Calls Try.prog 21 #[.pointer p, adder B] W fun e W' => e = .returned (.tuple #[]) ∧ Coll w B N (pre ++ nums r) W' := by
  intro n
  induction n with
  | zero =>
    intro r p pre W hn hr hN hC
    have hr0 : r = .nil := by
      cases r with
      | nil => rfl
      | cons x k b n => simp [nums] at hn
    subst hr0
    obtain rfl : p = none := hr
    have hd : Coll w B N (pre ++ nums .nil) W := by
      rw [show nums .nil = [] from rfl, List.append_nil]
      exact hC
    clear hn hN hC
    go_enter Try.func21, Try.ntmps21
    go_wp2_with fail
    go_loopw [0] (fun c W' => c = .pointer none ∧ W' = W) (fun _ _ => 0)
    case atStart => exact ⟨rfl, rfl⟩
    case round =>
      obtain ⟨rfl, rfl⟩ := hrel
      go_wp2_with fail
      go_end0
      exact ⟨rfl, hd⟩
  | succ m ih =>
    intro r p pre W hn hr hN hC
    go_enter Try.func21, Try.ntmps21
    go_wp2_with fail
    go_loopw [0] (fun c W' => ∃ pr q us, c = .pointer q ∧ Hid (pr ++ nums us = pre ++ nums r) ∧ (nums us).length ≤ m + 1 ∧ pr.length + (nums us).length ≤ N ∧ Coll w B N pr W' ∧ Row w.heap.size w us q) (fun c _ => left w.heap.size w c)
    case atStart => exact ⟨pre, p, r, rfl, Lib.hid rfl, hn, hN, hC, hr⟩
    case round =>
      clear hn hr hN hC
      obtain ⟨pr, q, us, rfl, hpr, hn, hN, hC, hr⟩ := hrel
      have hle := left_eq hr
      rcases us with _ | ⟨x, k, b, us⟩
      · obtain rfl : q = none := hr
        have hd : Coll w B N (pre ++ nums r) wr := by
          rw [← hpr.out, show nums .nil = [] from rfl, List.append_nil]
          exact hC
        go_wp2_with fail
        go_end0
        exact ⟨rfl, hd⟩
      · obtain ⟨g, h, cb, q', rfl, hg, hv, hh, hu, hb, hr'⟩ := hr
        have hle2 := left_eq hr'
        have nx : nums (.cons x k b us) = x :: (nums b ++ nums us) := rfl
        rw [nx] at hpr hn hN
        simp only [List.length_cons, List.length_append] at hn hN
        have c0 : ∀ W', Below w.heap.size w W' → W'.cell? ⟨g, 0, none⟩ = _ := fun W' z => (hv.below z hg).cell 0
        have c1 : ∀ W', Below w.heap.size w W' → W'.cell? ⟨g, 1, none⟩ = _ := fun W' z => (hv.below z hg).cell 1
        have e0 : ∀ W', Below w.heap.size w W' → W'.cell? ⟨h, 0, none⟩ = _ := fun W' z => (hu.below z hh).cell 0
        have e2 : ∀ W', Below w.heap.size w W' → W'.cell? ⟨h, 2, none⟩ = _ := fun W' z => (hu.below z hh).cell 2
        simp only [List.getElem?_cons_zero, List.getElem?_cons_succ] at c0 c1 e0 e2
        have d0 := c0 _ hC.1
        have d2 := e0 _ hC.1
        have a1 := add_coll x hC (by omega)
        have a2 := fun W' => ih b cb (pr ++ [x]) W' (by omega) hb (by simp; omega)
        have hP2 : Hid (((pr ++ [x]) ++ nums b) ++ nums us = pre ++ nums r) := Lib.hid (by rw [← hpr.out]; simp)
        have hN2 : ((pr ++ [x]) ++ nums b).length + (nums us).length ≤ N := by simp; omega
        clear ih hv hu hb hpr hC hN
        go_wp2_with (first
          | (go_at_call 22; refine a1.mono ?_; rintro e w1 ⟨rfl, hC1⟩; have g0 := c0 _ hC1.1; have g2 := e2 _ hC1.1; clear a1 d0 d2)
          | (go_at_call 21; refine (a2 _ hC1).mono ?_; rintro e w2 ⟨rfl, hC2⟩; have k1 := c1 _ hC2.1; clear a2 g0 g2))
        go_roundw
        case rel => exact ⟨_, q', us, rfl, hP2, by omega, hN2, hC2, hr'⟩
        case measure => rw [hle2]; simp [ranks] at hle; omega

set_option maxHeartbeats 4000000 in
theorem ints_own {v : Value} {l : List Int} {w : World} (hv : IsHeap w w.heap.size v l) (hbd : l.length ≤ 35184372088832) :
    Calls Try.prog 12 #[v] w fun e w' => (∃ u, e = .returned u ∧ w'.ownsRow w.heap.size 3 1 u l.length ((srt l).map (Value.int .i64))) ∧ Below w.heap.size w w' := by
  have hv' := hv
  obtain ⟨p, r, rfl, hc, -, hpm, -⟩ := hv'
  obtain ⟨i0, hi, hz0, hz1, hz2⟩ := info_parts same.infoInt
  have hA := hp.Blk.new w [.pointer p] tyH
  have hb0 : Below w.heap.size w (w.alloc (.cells #[.pointer p] tyH)) := by
    ((repeat' (first | with_reducible exact Below.refl _ _ | with_reducible apply Below.setCell | with_reducible apply below_drewN | with_reducible apply Below.drew | with_reducible apply Below.alloc | with_reducible refine Below.trans ?_ (Below.mono (by assumption) ?_))) <;> (first | (simp; done) | (simp; omega) | omega))
  have hlen := len_any _ l _ (hv.on hb0) (by omega)
  have hnl := hpm.length_eq
  have hse : srt (nums r) = srt l := srt_eq hpm
  clear hv
  replace hse := Lib.hid hse
  go_enter Try.func12, Try.ntmps12
  go_wp2_with (first
    | (go_at_call 15; refine hlen.mono ?_; rintro e wl ⟨rfl, hbl⟩; have hA2 := hA.on hbl; have hb2 := hb0.trans (hbl.mono hb0.size))
    | (at_make; refine wpList_make_own _ rfl _ _ 22 rfl w.heap.size 3 i0 (.int .i64 0) 1 Try.underlying22 hi hz0 hz1 .i64 .i64 _ l.length rfl rfl rfl (by rw [hz2]; omega) (by unfold maxLen; omega) (by have := hb2.size; omega) ?_; intro w1 hown1 hgrow1; have hb1 := (Below.refl _ _).grown hgrow1 (Nat.le_refl _) (fun k e => by cases e); have hA1 := hA2.on hb1; have c0 := hA1.cell 0; have hlt1 := hA1.lt; simp only [List.getElem?_cons_zero] at c0))
  have hbA := hb2.trans (hb1.mono hb2.size)
  have hC0 : Coll w w1.heap.size l.length [] (w1.alloc (.cells #[.slice (some ⟨wl.heap.size, 0, none⟩) 0 l.length] 22)) :=
    ⟨hbA.alloc hbA.size _, hbA.size, wl.heap.size, hp.Blk.newAt (cs := [.slice (some ⟨wl.heap.size, 0, none⟩) 0 l.length]) rfl, hown1.alloc _⟩
  have hea := each_any (nums r).length r p [] _ (Nat.le_refl _) hc (by simp; omega) hC0
  rw [List.nil_append] at hea
  clear hlen hbl hA2 hA1 hgrow1 hown1 hb1 c0 hA hb0 hb2 hC0 hbA hlt1
  go_wp2_with (first
    | (go_at_call 21; refine hea.mono ?_; clear hea; rintro e w3 ⟨rfl, hb3, hB3, g, hk, hrow⟩; rw [hnl] at hk hrow; (have d0 := (hk).cell 0; simp only [List.getElem?_cons_zero] at d0))
    | (go_at_call 23; refine (srt.sort_own hnl hrow (by omega)).mono ?_; rintro e w4 ⟨rfl, hrow4, hgr⟩; have hk4 : hp.Blk w4 w1.heap.size 22 [.slice (some ⟨g, 0, none⟩) l.length l.length] := (hgr.block w1.heap.size hk.lt (hk.not_row (by decide) hrow)).trans hk; clear d0; (have d0 := (hk4).cell 0; simp only [List.getElem?_cons_zero] at d0); have hb4 := hb3.grown hgr hb3.size (fun k hk => (hrow.lt k hk).1)))
  go_ret
  rw [hse.out] at hrow4
  exact ⟨⟨_, rfl, hrow4⟩, hb4⟩

theorem ints_any {v : Value} {l : List Int} {w : World} (hv : IsHeap w w.heap.size v l) (hbd : l.length ≤ 35184372088832) :
    Calls Try.prog 12 #[v] w fun e w' => (∃ u, e = .returned u ∧ hp.IsInts w' w'.heap.size u (srt l)) ∧ Below w.heap.size w w' :=
  (ints_own hv hbd).mono fun _ _ ⟨⟨u, he, hu⟩, hb⟩ => ⟨⟨u, he, hp.IsInts.of_owns hu (srt_len l).symm (fun x hx => hv.wf x ((srt_perm l).mem_iff.1 hx))⟩, hb⟩

/-- ranks as numbers -/
def its (ks : List Nat) : List Int := ks.map fun k : Nat => (k : Int)

set_option maxHeartbeats 4000000 in
theorem ranks_any {v : Value} {l : List Int} {w : World} (hv : IsHeap w w.heap.size v l) (hbd : l.length < 4611686018427387904) :
    Calls Try.prog 18 #[v] w fun e w' => (∃ u ks, e = .returned u ∧ hp.IsInts w' w'.heap.size u (its ks) ∧ Asc 0 ks ∧ pow2 ks = l.length) ∧ Below w.heap.size w w' := by
  obtain ⟨p, r, rfl, hc, hi, hpm, -⟩ := hv
  have own0 : w.ownsRow w.heap.size 3 1 (.slice none 0 0) 0 ((its []).map (Value.int .i64)) := World.ownsRow_nil _ _ _ _
  obtain ⟨i0, hii, hz0, hz1, hz2⟩ := info_parts same.infoInt
  have hasc := hi.asc
  have hp2 : pow2 (ranks r) = l.length := by rw [← hi.len, hpm.length_eq]
  have hsm : ∀ k ∈ ranks r, k < 62 := fun k hk => small (n := pow2 (ranks r)) (N := 62) (pow2_mem hk) (by rw [hp2]; exact hbd)
  have hll : (ranks r).length ≤ 62 := by
    have h1 : ∀ (ks : List Nat) (m : Nat), Asc m ks → (∀ k ∈ ks, k < 62) → m + ks.length ≤ 62 ∨ ks = [] := by
      intro ks
      induction ks with
      | nil => intro m _ _; exact .inr rfl
      | cons k ks ih =>
        rintro m ⟨g1, g2⟩ g3
        have := g3 k (by simp)
        rcases ih (k + 1) g2 (fun j hj => g3 j (by simp [hj])) with h | rfl
        · left; simp; omega
        · left; simp; omega
    rcases h1 _ 0 hasc hsm with h | h
    · omega
    · simp [h]
  clear hi hpm hbd
  replace hp2 := Lib.hid hp2
  replace hasc := Lib.hid hasc
  go_enter Try.func18, Try.ntmps18
  go_wp2_with fail
  go_loopw [3, 4] (fun u c W => ∃ pre q us, c = .pointer q ∧ Hid (ranks r = pre ++ ranks us) ∧ pre.length + (ranks us).length ≤ 62 ∧ (∀ k ∈ pre, k < 62) ∧ (∀ k ∈ ranks us, k < 62) ∧ Below w.heap.size w W ∧ W.ownsRow w.heap.size 3 1 u pre.length ((its pre).map (Value.int .i64)) ∧ Row w.heap.size w us q) (fun _ c _ => left w.heap.size w c)
  case atStart =>
    refine ⟨[], p, r, rfl, Lib.hid rfl, by simpa using hll, by simp, hsm, ?_, own0.alloc _, hc⟩
    ((repeat' (first | with_reducible exact Below.refl _ _ | with_reducible apply Below.setCell | with_reducible apply below_drewN | with_reducible apply Below.drew | with_reducible apply Below.alloc | with_reducible refine Below.trans ?_ (Below.mono (by assumption) ?_))) <;> (first | (simp; done) | (simp; omega) | omega))
  case round =>
    clear hc own0 hsm hll
    obtain ⟨pre, q, us, rfl, hl, hn, hps, hus, hb, hrow, hq⟩ := hrel
    have hle := left_eq hq
    rcases us with _ | ⟨x, k, b, us⟩
    · obtain rfl : q = none := hq
      have hpre : ranks r = pre := by have := hl.out; simpa [ranks] using this
      have hwf : ∀ x ∈ its pre, (Lit.int .i64 x).wf = true := by
        intro x hx
        obtain ⟨k, hk, rfl⟩ := List.mem_map.1 hx
        have := hps k hk
        simp only [Lit.wf, IntKind.min, IntKind.max, IntKind.signed, IntKind.bits, Bool.and_eq_true, decide_eq_true_eq]
        simp
        omega
      replace hwf := Lib.hid hwf
      go_wp2_with fail
      go_ret
      exact ⟨⟨_, pre, rfl, hp.IsInts.of_owns hrow (by simp [its]) hwf.out, by rw [← hpre]; exact hasc.out, by rw [← hpre]; exact hp2.out⟩, hb⟩
    · obtain ⟨g, h, cb, q', rfl, hg, hv, hh, hu, -, hq'⟩ := hq
      have hr' := left_eq hq'
      have hk62 : k < 62 := hus k (by simp [ranks])
      have c0 := (hv.below hb hg).cell 0
      have c1 : ∀ W', Below w.heap.size w W' → W'.cell? ⟨g, 1, none⟩ = _ := fun W' z => (hv.below z hg).cell 1
      have e1 := (hu.below hb hh).cell 1
      simp only [List.getElem?_cons_zero, List.getElem?_cons_succ] at c0 c1 e1
      have hl2 : Hid (ranks r = (pre ++ [k]) ++ ranks us) := Lib.hid (by rw [hl.out]; simp [ranks])
      have hps2 : Hid (∀ j ∈ pre ++ [k], j < 62) := Lib.hid (by
        intro j hj
        rcases List.mem_append.1 hj with hj | hj
        · exact hps j hj
        · obtain rfl : j = k := by simpa using hj
          exact hk62)
      have hus2 : Hid (∀ j ∈ ranks us, j < 62) := Lib.hid (fun j hj => hus j (by simp [ranks, hj]))
      have hrw : Hid (∀ (u : Value) (W : World), W.ownsRow w.heap.size 3 1 u (pre.length + 1) ((its pre).map (Value.int .i64) ++ [.int .i64 (k : Int)]) → W.ownsRow w.heap.size 3 1 u (pre ++ [k]).length ((its (pre ++ [k])).map (Value.int .i64))) := Lib.hid (by
        intro u W h
        simpa [its] using h)
      simp only [ranks, List.length_cons] at hn
      have hn2 : (pre ++ [k]).length + (ranks us).length ≤ 62 := by simp; omega
      have hpl : pre.length ≤ 62 := by omega
      generalize (k : Int) = K at *
      clear hl hps hus hv hu hn
      go_wp2_with (at_builtin; refine wpList_append_own _ rfl _ _ 22 rfl w.heap.size 3 i0 (.int .i64 0) 1 8 Try.underlying22 hii hz0 hz1 hz2 rfl (by decide) _ _ _ rfl (hrow.alloc _) ⟨wr.heap.size, 0, none⟩ 1 1 [.int .i64 K] rfl rfl (cell_one_new _ _ _) (by simp [Value.oneCell']) (by unfold maxLen; omega) (by omega) (by have := hb.size; simp; omega) ?_; intro v' w1 hown' hgrow _; have hb1 : Below w.heap.size w w1 := (hb.alloc hb.size _).grown hgrow (by have := hb.size; simp; omega) (fun k hk => (hrow.lt k hk).1); have d2 := c1 _ hb1; clear c0)
      go_roundw
      case rel => exact ⟨pre ++ [k], q', us, rfl, hl2, hn2, hps2.out, hus2.out, hb1, hrw.out _ _ hown', hq'⟩
      case measure => rw [hr']; simp [ranks] at hle; omega
end Go.Proofs.Ytdbipbmdpgccnaa.bin
