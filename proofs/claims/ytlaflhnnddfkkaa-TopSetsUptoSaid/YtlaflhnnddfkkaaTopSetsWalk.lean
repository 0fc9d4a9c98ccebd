/- The walk of TopSets. -/
import Derived.Test.YtlaflhnnddfkkaaAvlIntsT
import Derived.Test.YtlaflhnnddfkkaaRedIntsT
import Derived.Test.YtlaflhnnddfkkaaWbtIntsT
import Derived.Test.YtlaflhnnddfkkaaTrpIntsT
import Derived.Test.YtlaflhnnddfkkaaSplWalks
import Derived.Test.YtlaflhnnddfkkaaBools
namespace Go.Proofs.Ytlaflhnnddfkkaa.topSets
open Go Go.RowKit Go.Proofs.Ytlaflhnnddfkkaa.sch Go.Proofs.Ytlaflhnnddfkkaa.same
set_option linter.unusedVariables false

theorem st {w W W' : World} (h : Below w.heap.size w W) (h' : Below W.heap.size W W') : Below w.heap.size w W' := h.trans (h'.mono h.size)
theorem has_avl {v : Value} {l : List Int} {x : Int} {w : World} {b : Bool} (hv : avl.IsSet w w.heap.size v l) (hb : Hid (b = decide (x ∈ l))) :
    Calls Try.prog 36 #[v, .int .i64 x] w fun e w' => e = .returned (.bool b) ∧ Below w.heap.size w w' := avl.set_has hv hb.out
theorem put_avl {l K : List Int} {x : Int} (hK : ins x l = K) {v : Value} {w : World} (hv : avl.IsSet w w.heap.size v l) (hx : (Lit.int .i64 x).wf = true) (hbd : l.length ≤ 2097152) :
    Calls Try.prog 28 #[v, .int .i64 x] w fun e w' => (∃ q, e = .returned (sch.rv q K.length) ∧ avl.IsSet w' w'.heap.size (sch.rv q K.length) K) ∧ Below w.heap.size w w' := by
  subst hK
  exact avl.set_put hv hx (by omega)
theorem drop_avl {l K : List Int} {x : Int} (hK : del x l = K) {v : Value} {w : World} (hv : avl.IsSet w w.heap.size v l) (hx : (Lit.int .i64 x).wf = true) (hbd : l.length ≤ 2097152) :
    Calls Try.prog 24 #[v, .int .i64 x] w fun e w' => (∃ q, e = .returned (sch.rv q K.length) ∧ avl.IsSet w' w'.heap.size (sch.rv q K.length) K) ∧ Below w.heap.size w w' := by
  subst hK
  exact avl.set_drop hv hx (by omega)
theorem has_red {v : Value} {l : List Int} {x : Int} {w : World} {b : Bool} (hv : red.IsSet w w.heap.size v l) (hb : Hid (b = decide (x ∈ l))) :
    Calls Try.prog 37 #[v, .int .i64 x] w fun e w' => e = .returned (.bool b) ∧ Below w.heap.size w w' := red.set_has hv hb.out
theorem put_red {l K : List Int} {x : Int} (hK : ins x l = K) {v : Value} {w : World} (hv : red.IsSet w w.heap.size v l) (hx : (Lit.int .i64 x).wf = true) (hbd : l.length ≤ 2097152) :
    Calls Try.prog 29 #[v, .int .i64 x] w fun e w' => (∃ q, e = .returned (sch.rv q K.length) ∧ red.IsSet w' w'.heap.size (sch.rv q K.length) K) ∧ Below w.heap.size w w' := by
  subst hK
  exact red.set_put hv hx (by omega)
theorem drop_red {l K : List Int} {x : Int} (hK : del x l = K) {v : Value} {w : World} (hv : red.IsSet w w.heap.size v l) (hx : (Lit.int .i64 x).wf = true) (hbd : l.length ≤ 2097152) :
    Calls Try.prog 25 #[v, .int .i64 x] w fun e w' => (∃ q, e = .returned (sch.rv q K.length) ∧ red.IsSet w' w'.heap.size (sch.rv q K.length) K) ∧ Below w.heap.size w w' := by
  subst hK
  exact red.set_drop hv hx (by omega)
theorem has_wbt {v : Value} {l : List Int} {x : Int} {w : World} {b : Bool} (hv : wbt.IsSet w w.heap.size v l) (hb : Hid (b = decide (x ∈ l))) :
    Calls Try.prog 38 #[v, .int .i64 x] w fun e w' => e = .returned (.bool b) ∧ Below w.heap.size w w' := wbt.set_has hv hb.out
theorem put_wbt {l K : List Int} {x : Int} (hK : ins x l = K) {v : Value} {w : World} (hv : wbt.IsSet w w.heap.size v l) (hx : (Lit.int .i64 x).wf = true) (hbd : l.length ≤ 2097152) :
    Calls Try.prog 30 #[v, .int .i64 x] w fun e w' => (∃ q, e = .returned (wbt.rv q) ∧ wbt.IsSet w' w'.heap.size (wbt.rv q) K) ∧ Below w.heap.size w w' := by
  subst hK
  exact wbt.set_put hv hx (by omega)
theorem drop_wbt {l K : List Int} {x : Int} (hK : del x l = K) {v : Value} {w : World} (hv : wbt.IsSet w w.heap.size v l) (hx : (Lit.int .i64 x).wf = true) (hbd : l.length ≤ 2097152) :
    Calls Try.prog 26 #[v, .int .i64 x] w fun e w' => (∃ q, e = .returned (wbt.rv q) ∧ wbt.IsSet w' w'.heap.size (wbt.rv q) K) ∧ Below w.heap.size w w' := by
  subst hK
  exact wbt.set_drop hv hx (by omega)
theorem has_trp {v : Value} {l : List Int} {x : Int} {w : World} {b : Bool} (hv : trp.IsSet w w.heap.size v l) (hb : Hid (b = decide (x ∈ l))) :
    Calls Try.prog 39 #[v, .int .i64 x] w fun e w' => e = .returned (.bool b) ∧ Below w.heap.size w w' := trp.set_has hv hb.out
theorem put_trp {l K : List Int} {x : Int} (hK : ins x l = K) {v : Value} {w : World} (hv : trp.IsSet w w.heap.size v l) (hx : (Lit.int .i64 x).wf = true) (hbd : l.length ≤ 2097152) :
    Calls Try.prog 31 #[v, .int .i64 x] w fun e w' => (∃ q, e = .returned (sch.rv q K.length) ∧ trp.IsSet w' w'.heap.size (sch.rv q K.length) K) ∧ Below w.heap.size w w' := by
  subst hK
  exact trp.set_put hv hx (by omega)
theorem drop_trp {l K : List Int} {x : Int} (hK : del x l = K) {v : Value} {w : World} (hv : trp.IsSet w w.heap.size v l) (hx : (Lit.int .i64 x).wf = true) (hbd : l.length ≤ 2097152) :
    Calls Try.prog 27 #[v, .int .i64 x] w fun e w' => (∃ q, e = .returned (sch.rv q K.length) ∧ trp.IsSet w' w'.heap.size (sch.rv q K.length) K) ∧ Below w.heap.size w w' := by
  subst hK
  exact trp.set_drop hv hx (by omega)
theorem has_spl {v : Value} {l : List Int} {x : Int} {w : World} {b : Bool} (hv : spl.IsSet w w.heap.size v l) (hb : Hid (b = decide (x ∈ l))) :
    Calls Try.prog 18 #[v, .int .i64 x] w fun e w' => e = .returned (.bool b) ∧ Below w.heap.size w w' := spl.set_has hv hb.out
theorem put_spl {l K : List Int} {x : Int} (hK : ins x l = K) {v : Value} {w : World} (hv : spl.IsSet w w.heap.size v l) (hx : (Lit.int .i64 x).wf = true) (hbd : l.length ≤ 2097152) :
    Calls Try.prog 12 #[v, .int .i64 x] w fun e w' => (∃ q, e = .returned (sch.rv q K.length) ∧ spl.IsSet w' w'.heap.size (sch.rv q K.length) K) ∧ Below w.heap.size w w' := by
  subst hK
  exact spl.put_as rfl hv hx (by omega)
theorem drop_spl {l K : List Int} {x : Int} (hK : del x l = K) {v : Value} {w : World} (hv : spl.IsSet w w.heap.size v l) (hx : (Lit.int .i64 x).wf = true) (hbd : l.length ≤ 2097152) :
    Calls Try.prog 10 #[v, .int .i64 x] w fun e w' => (∃ q, e = .returned (sch.rv q K.length) ∧ spl.IsSet w' w'.heap.size (sch.rv q K.length) K) ∧ Below w.heap.size w w' := by
  subst hK
  exact spl.drop_as rfl hv hx (by omega)

set_option maxRecDepth 100000 in
set_option maxHeartbeats 32000000 in
theorem walk (v0 : Value) (l0 : List Int) (v1 : Value) (n1 : Nat) (f1 : Nat → Bool) (x : Int) (w : World) (i0 : hp.IsInts w w.heap.size v0 l0) (i1 : hp.IsBools w w.heap.size v1 n1 f1) (hx : (Lit.int .i64 x).wf = true) (bd : l0.length ≤ 1048576) :
    Calls Try.prog 8 #[v0, v1, .int .i64 x] w fun e w' => e = .returned (.bool true) ∧ Below w.heap.size w w' := by
  obtain ⟨a0, c0, rfl, -, -, hwf0, hc0⟩ := i0
  obtain ⟨a1, c1, rfl, hn1, hc1⟩ := i1
  obtain ⟨W5, hW5⟩ : ∃ W5, (((((w.alloc (.cells #[.pointer none, .int .i64 0] avl.tyH)).alloc (.cells #[.pointer none, .int .i64 0] red.tyH)).alloc (.cells #[.pointer none] wbt.tyH)).alloc (.cells #[.pointer none, .int .i64 0] trp.tyH)).alloc (.cells #[.pointer none, .int .i64 0] spl.tyH)) = W5 := ⟨_, rfl⟩
  have KK : Below w.heap.size w W5 := by
    rw [← hW5]
    ((repeat' (first | with_reducible exact Below.refl _ _ | with_reducible apply Below.setCell | with_reducible apply below_drewN | with_reducible apply Below.drew | with_reducible apply Below.alloc | with_reducible refine Below.trans ?_ (Below.mono (by assumption) ?_))) <;> (first | (simp; done) | (simp; omega) | omega))
  have hAa : hp.Blk W5 (w.heap.size) avl.tyH [.pointer none, .int .i64 0] := by
    rw [← hW5]
    exact (((((hp.Blk.newAt (by simp)).alloc _).alloc _).alloc _).alloc _)
  have hAb : hp.Blk W5 (w.heap.size + 1) red.tyH [.pointer none, .int .i64 0] := by
    rw [← hW5]
    exact ((((hp.Blk.newAt (by simp)).alloc _).alloc _).alloc _)
  have hAc : hp.Blk W5 (w.heap.size + 1 + 1) wbt.tyH [.pointer none] := by
    rw [← hW5]
    exact (((hp.Blk.newAt (by simp)).alloc _).alloc _)
  have hAd : hp.Blk W5 (w.heap.size + 1 + 1 + 1) trp.tyH [.pointer none, .int .i64 0] := by
    rw [← hW5]
    exact ((hp.Blk.newAt (by simp)).alloc _)
  have hAe : hp.Blk W5 (w.heap.size + 1 + 1 + 1 + 1) spl.tyH [.pointer none, .int .i64 0] := by
    rw [← hW5]
    exact (hp.Blk.newAt (by simp))
  go_enter Try.func8, Try.ntmps8
  go_wp2_with fail
  try rw [hW5]
  clear hW5
  go_loopw [12] (fun i wr => ∃ (k : Nat) (M : List Int) (qa qb qc qd qe : Option Addr), i = .int .i64 k ∧ k ≤ l0.length ∧ M.length ≤ k ∧ Below w.heap.size w wr ∧ hp.Blk wr (w.heap.size) avl.tyH [.pointer qa, .int .i64 M.length] ∧ hp.Blk wr (w.heap.size + 1) red.tyH [.pointer qb, .int .i64 M.length] ∧ hp.Blk wr (w.heap.size + 1 + 1) wbt.tyH [.pointer qc] ∧ hp.Blk wr (w.heap.size + 1 + 1 + 1) trp.tyH [.pointer qd, .int .i64 M.length] ∧ hp.Blk wr (w.heap.size + 1 + 1 + 1 + 1) spl.tyH [.pointer qe, .int .i64 M.length] ∧ avl.IsSet wr wr.heap.size (sch.rv qa M.length) M ∧ red.IsSet wr wr.heap.size (sch.rv qb M.length) M ∧ wbt.IsSet wr wr.heap.size (wbt.rv qc) M ∧ trp.IsSet wr wr.heap.size (sch.rv qd M.length) M ∧ spl.IsSet wr wr.heap.size (sch.rv qe M.length) M) (fun i _ => l0.length - (intOf i).toNat)
  case atStart => exact ⟨0, [], none, none, none, none, none, rfl, Nat.zero_le _, Nat.le_refl _, KK, hAa, hAb, hAc, hAd, hAe, avl.IsSet.nil _ _, red.IsSet.nil _ _, wbt.IsSet.nil _ _, trp.IsSet.nil _ _, spl.IsSet.nil _ _⟩
  case round =>
    clear KK hAa hAb hAc hAd hAe
    obtain ⟨k, M, qa, qb, qc, qd, qe, rfl, hk, hMk, hB, hAa, hAb, hAc, hAd, hAe, hSa, hSb, hSc, hSd, hSe⟩ := hrel
    by_cases hlt : k < l0.length
    · obtain ⟨b, off, rfl, hbb, hce⟩ := hc0 (by omega)
      have hcy := fun W (hW : Below w.heap.size w W) => (hW.cell (p := ⟨b, off + k, none⟩) hbb).trans (hce k hlt)
      have hwy : (Lit.int .i64 (l0.getD k 0)).wf = true := hwf0 _ (by simp [hlt])
      obtain ⟨y, hy⟩ : ∃ y, l0.getD k 0 = y := ⟨_, rfl⟩
      rw [hy] at hcy hwy
      have hcx := hcy _ hB
      have hbw := Nat.lt_of_lt_of_le hbb hB.size
      clear hc0 hce hwf0 hy hx
      by_cases hdr : k < n1 ∧ f1 k = true
      · obtain ⟨hkn, hft⟩ := hdr
        obtain ⟨b1, o1, rfl, hb1, hd1⟩ := hc1 (by omega)
        have hy2 := (hB.cell (p := ⟨b1, o1 + k, none⟩) hb1).trans (hd1 k hkn)
        rw [hft] at hy2
        have hb1w := Nat.lt_of_lt_of_le hb1 hB.size
        have hdl := del_le y M
        obtain ⟨D, hD⟩ : ∃ D, del y M = D := ⟨_, rfl⟩
        rw [hD] at hdl
        clear hc1 hd1 hft
        have hop := fun W (hW : Below wr.heap.size wr W) => drop_avl hD (hSa.on hW) hwy (by omega)
        go_wp2_with fail
        apply rel.region_tail (C := fun w' => Below wr.heap.size wr w') (X := fun w w' => Below w.heap.size w w') 6 (by kernel_rfl) (by kernel_rfl) (by kernel_rfl) (by kernel_rfl) ((Below.refl _ _).drew)
        ((apply rel.walk_val; (focus (intro wq hq hf; (obtain ⟨d0, d1⟩ := ((hAa).below hq (hAa).lt).cells2); go_wp2; refine ⟨hq, Below.refl _ _, ?_, rfl⟩; (show rel.slot _ _ = _; simp only [rel.slot_lit, List.getD_cons_succ, List.getD_cons_zero]; (first | done | exact rfl)))); (simp only [rel.put_lit, List.set_cons_succ, List.set_cons_zero])))
        (apply rel.walk_val; (focus (intro wq hq hf; go_wp2; refine ⟨hq, Below.refl _ _, ?_, rfl⟩; (show rel.slot _ _ = _; simp only [rel.slot_lit, List.getD_cons_succ, List.getD_cons_zero]; (first | done | exact rfl)))); (simp only [rel.put_lit, List.set_cons_succ, List.set_cons_zero]))
        (apply rel.walk_val; (focus (intro wq hq hf; go_wp2; refine ⟨hq, Below.refl _ _, ?_, rfl⟩; (show rel.slot _ _ = _; simp only [rel.slot_lit, List.getD_cons_succ, List.getD_cons_zero]; (first | done | exact rfl)))); (simp only [rel.put_lit, List.set_cons_succ, List.set_cons_zero]))
        (apply rel.walk_val; (focus (intro wq hq hf; go_wp2; refine ⟨hq, Below.refl _ _, ?_, rfl⟩; (show rel.slot _ _ = _; simp only [rel.slot_lit, List.getD_cons_succ, List.getD_cons_zero]; (first | done | exact rfl)))); (simp only [rel.put_lit, List.set_cons_succ, List.set_cons_zero]))
        ((apply rel.walk_val; (focus (intro wq hq hf; (have d0 := (hq.cell (p := ⟨b, off + k, none⟩) hbw).trans hcx); go_wp2; refine ⟨hq, Below.refl _ _, ?_, rfl⟩; (show rel.slot _ _ = _; simp only [rel.slot_lit, List.getD_cons_succ, List.getD_cons_zero]; (first | done | exact rfl)))); (simp only [rel.put_lit, List.set_cons_succ, List.set_cons_zero])))
        (apply rel.walk_rel (fun u w' => avl.IsSet w' w'.heap.size u (D)) ⟨_, rfl⟩ (fun u w1 w2 h1 h2 => h2.on h1); (focus (intro wq hq hf; go_wp2_with (go_at_call 24; with_reducible refine (hop _ hq).mono ?_; rintro e w'' ⟨⟨u, rfl, hu⟩, hb⟩); refine ⟨hq.trans (hb.mono hq.size), hb, ?_, rfl⟩; (show avl.IsSet _ _ (rel.slot _ _) _; simp only [rel.slot_lit, List.getD_cons_succ, List.getD_cons_zero]; exact hu))); (intro u wu _ hu; obtain ⟨qan, t_qan, rfl, -⟩ := hu; (simp only [rel.put_lit, List.set_cons_succ, List.set_cons_zero])))
        refine rel.walk_nil ?_
        intro w9 K9 hF
        have hu : avl.IsSet w9 w9.heap.size (sch.rv qan D.length) D := hF _ (List.mem_cons_self ..)
        have hR9 := hAa.on K9
        obtain ⟨d0, d1⟩ := hR9.cells2
        have f0 := hR9.free 0
        have f1' := hR9.free 1
        clear hF hop
        simp only [List.drop_succ_cons, List.drop_zero]
        go_wp2_with fail
        obtain ⟨Wda, hW9, hAan, hSan, hBn, hKp, hsz, hot⟩ := avl.stored (k := (D.length : Int)) rfl hR9 (by omega) (hB.trans (K9.mono hB.size)) hu
        have hAbn := hot _ _ _ (by omega) (hAb.on K9)
        have hSbn : red.IsSet Wda Wda.heap.size (sch.rv qb M.length) M := ((hSb.on K9).keep hKp).mono (Nat.le_of_eq hsz.symm)
        have hAcn := hot _ _ _ (by omega) (hAc.on K9)
        have hScn : wbt.IsSet Wda Wda.heap.size (wbt.rv qc) M := ((hSc.on K9).keep hKp).mono (Nat.le_of_eq hsz.symm)
        have hAdn := hot _ _ _ (by omega) (hAd.on K9)
        have hSdn : trp.IsSet Wda Wda.heap.size (sch.rv qd M.length) M := ((hSd.on K9).keep hKp).mono (Nat.le_of_eq hsz.symm)
        have hAen := hot _ _ _ (by omega) (hAe.on K9)
        have hSen : spl.IsSet Wda Wda.heap.size (sch.rv qe M.length) M := ((hSe.on K9).keep hKp).mono (Nat.le_of_eq hsz.symm)
        rw [hW9]
        clear hW9 d0 f0 hR9 hu K9 hcx hbw hKp hsz hot hB hAa hAb hAc hAd hAe hSa hSb hSc hSd hSe d1 f1'
        have hB := hBn
        have hAa := hAan
        have hAb := hAbn
        have hAc := hAcn
        have hAd := hAdn
        have hAe := hAen
        have hSa := hSan
        have hSb := hSbn
        have hSc := hScn
        have hSd := hSdn
        have hSe := hSen
        clear hBn hAan hSan hAbn hSbn hAcn hScn hAdn hSdn hAen hSen
        have hcx := hcy _ hB
        have hbw := Nat.lt_of_lt_of_le hbb hB.size
        have hop := fun W (hW : Below Wda.heap.size Wda W) => drop_red hD (hSb.on hW) hwy (by omega)
        go_wp2_with fail
        apply rel.region_tail (C := fun w' => Below Wda.heap.size Wda w') (X := fun w w' => Below w.heap.size w w') 6 (by kernel_rfl) (by kernel_rfl) (by kernel_rfl) (by kernel_rfl) ((Below.refl _ _).drew)
        ((apply rel.walk_val; (focus (intro wq hq hf; (obtain ⟨d0, d1⟩ := ((hAb).below hq (hAb).lt).cells2); go_wp2; refine ⟨hq, Below.refl _ _, ?_, rfl⟩; (show rel.slot _ _ = _; simp only [rel.slot_lit, List.getD_cons_succ, List.getD_cons_zero]; (first | done | exact rfl)))); (simp only [rel.put_lit, List.set_cons_succ, List.set_cons_zero])))
        (apply rel.walk_val; (focus (intro wq hq hf; go_wp2; refine ⟨hq, Below.refl _ _, ?_, rfl⟩; (show rel.slot _ _ = _; simp only [rel.slot_lit, List.getD_cons_succ, List.getD_cons_zero]; (first | done | exact rfl)))); (simp only [rel.put_lit, List.set_cons_succ, List.set_cons_zero]))
        (apply rel.walk_val; (focus (intro wq hq hf; go_wp2; refine ⟨hq, Below.refl _ _, ?_, rfl⟩; (show rel.slot _ _ = _; simp only [rel.slot_lit, List.getD_cons_succ, List.getD_cons_zero]; (first | done | exact rfl)))); (simp only [rel.put_lit, List.set_cons_succ, List.set_cons_zero]))
        (apply rel.walk_val; (focus (intro wq hq hf; go_wp2; refine ⟨hq, Below.refl _ _, ?_, rfl⟩; (show rel.slot _ _ = _; simp only [rel.slot_lit, List.getD_cons_succ, List.getD_cons_zero]; (first | done | exact rfl)))); (simp only [rel.put_lit, List.set_cons_succ, List.set_cons_zero]))
        ((apply rel.walk_val; (focus (intro wq hq hf; (have d0 := (hq.cell (p := ⟨b, off + k, none⟩) hbw).trans hcx); go_wp2; refine ⟨hq, Below.refl _ _, ?_, rfl⟩; (show rel.slot _ _ = _; simp only [rel.slot_lit, List.getD_cons_succ, List.getD_cons_zero]; (first | done | exact rfl)))); (simp only [rel.put_lit, List.set_cons_succ, List.set_cons_zero])))
        (apply rel.walk_rel (fun u w' => red.IsSet w' w'.heap.size u (D)) ⟨_, rfl⟩ (fun u w1 w2 h1 h2 => h2.on h1); (focus (intro wq hq hf; go_wp2_with (go_at_call 25; with_reducible refine (hop _ hq).mono ?_; rintro e w'' ⟨⟨u, rfl, hu⟩, hb⟩); refine ⟨hq.trans (hb.mono hq.size), hb, ?_, rfl⟩; (show red.IsSet _ _ (rel.slot _ _) _; simp only [rel.slot_lit, List.getD_cons_succ, List.getD_cons_zero]; exact hu))); (intro u wu _ hu; obtain ⟨qbn, t_qbn, rfl, -⟩ := hu; (simp only [rel.put_lit, List.set_cons_succ, List.set_cons_zero])))
        refine rel.walk_nil ?_
        intro w9 K9 hF
        have hu : red.IsSet w9 w9.heap.size (sch.rv qbn D.length) D := hF _ (List.mem_cons_self ..)
        have hR9 := hAb.on K9
        obtain ⟨d0, d1⟩ := hR9.cells2
        have f0 := hR9.free 0
        have f1' := hR9.free 1
        clear hF hop
        simp only [List.drop_succ_cons, List.drop_zero]
        go_wp2_with fail
        obtain ⟨Wdb, hW9, hAbn, hSbn, hBn, hKp, hsz, hot⟩ := red.stored (k := (D.length : Int)) rfl hR9 (by omega) (hB.trans (K9.mono hB.size)) hu
        have hAan := hot _ _ _ (by omega) (hAa.on K9)
        have hSan : avl.IsSet Wdb Wdb.heap.size (sch.rv qan D.length) D := ((hSa.on K9).keep hKp).mono (Nat.le_of_eq hsz.symm)
        have hAcn := hot _ _ _ (by omega) (hAc.on K9)
        have hScn : wbt.IsSet Wdb Wdb.heap.size (wbt.rv qc) M := ((hSc.on K9).keep hKp).mono (Nat.le_of_eq hsz.symm)
        have hAdn := hot _ _ _ (by omega) (hAd.on K9)
        have hSdn : trp.IsSet Wdb Wdb.heap.size (sch.rv qd M.length) M := ((hSd.on K9).keep hKp).mono (Nat.le_of_eq hsz.symm)
        have hAen := hot _ _ _ (by omega) (hAe.on K9)
        have hSen : spl.IsSet Wdb Wdb.heap.size (sch.rv qe M.length) M := ((hSe.on K9).keep hKp).mono (Nat.le_of_eq hsz.symm)
        rw [hW9]
        clear hW9 d0 f0 hR9 hu K9 hcx hbw hKp hsz hot hB hAa hAb hAc hAd hAe hSa hSb hSc hSd hSe d1 f1'
        have hB := hBn
        have hAa := hAan
        have hAb := hAbn
        have hAc := hAcn
        have hAd := hAdn
        have hAe := hAen
        have hSa := hSan
        have hSb := hSbn
        have hSc := hScn
        have hSd := hSdn
        have hSe := hSen
        clear hBn hAan hSan hAbn hSbn hAcn hScn hAdn hSdn hAen hSen
        have hcx := hcy _ hB
        have hbw := Nat.lt_of_lt_of_le hbb hB.size
        have hop := fun W (hW : Below Wdb.heap.size Wdb W) => drop_wbt hD (hSc.on hW) hwy (by omega)
        go_wp2_with fail
        apply rel.region_tail (C := fun w' => Below Wdb.heap.size Wdb w') (X := fun w w' => Below w.heap.size w w') 6 (by kernel_rfl) (by kernel_rfl) (by kernel_rfl) (by kernel_rfl) ((Below.refl _ _).drew)
        ((apply rel.walk_val; (focus (intro wq hq hf; (have d0 := (((hAc).below hq (hAc).lt)).cell 0; simp only [List.getElem?_cons_zero] at d0); go_wp2; refine ⟨hq, Below.refl _ _, ?_, rfl⟩; (show rel.slot _ _ = _; simp only [rel.slot_lit, List.getD_cons_succ, List.getD_cons_zero]; (first | done | exact rfl)))); (simp only [rel.put_lit, List.set_cons_succ, List.set_cons_zero])))
        (apply rel.walk_val; (focus (intro wq hq hf; go_wp2; refine ⟨hq, Below.refl _ _, ?_, rfl⟩; (show rel.slot _ _ = _; simp only [rel.slot_lit, List.getD_cons_succ, List.getD_cons_zero]; (first | done | exact rfl)))); (simp only [rel.put_lit, List.set_cons_succ, List.set_cons_zero]))
        (apply rel.walk_val; (focus (intro wq hq hf; go_wp2; refine ⟨hq, Below.refl _ _, ?_, rfl⟩; (show rel.slot _ _ = _; simp only [rel.slot_lit, List.getD_cons_succ, List.getD_cons_zero]; (first | done | exact rfl)))); (simp only [rel.put_lit, List.set_cons_succ, List.set_cons_zero]))
        (apply rel.walk_val; (focus (intro wq hq hf; go_wp2; refine ⟨hq, Below.refl _ _, ?_, rfl⟩; (show rel.slot _ _ = _; simp only [rel.slot_lit, List.getD_cons_succ, List.getD_cons_zero]; (first | done | exact rfl)))); (simp only [rel.put_lit, List.set_cons_succ, List.set_cons_zero]))
        ((apply rel.walk_val; (focus (intro wq hq hf; (have d0 := (hq.cell (p := ⟨b, off + k, none⟩) hbw).trans hcx); go_wp2; refine ⟨hq, Below.refl _ _, ?_, rfl⟩; (show rel.slot _ _ = _; simp only [rel.slot_lit, List.getD_cons_succ, List.getD_cons_zero]; (first | done | exact rfl)))); (simp only [rel.put_lit, List.set_cons_succ, List.set_cons_zero])))
        (apply rel.walk_rel (fun u w' => wbt.IsSet w' w'.heap.size u (D)) ⟨_, rfl⟩ (fun u w1 w2 h1 h2 => h2.on h1); (focus (intro wq hq hf; go_wp2_with (go_at_call 26; with_reducible refine (hop _ hq).mono ?_; rintro e w'' ⟨⟨u, rfl, hu⟩, hb⟩); refine ⟨hq.trans (hb.mono hq.size), hb, ?_, rfl⟩; (show wbt.IsSet _ _ (rel.slot _ _) _; simp only [rel.slot_lit, List.getD_cons_succ, List.getD_cons_zero]; exact hu))); (intro u wu _ hu; obtain ⟨qcn, t_qcn, rfl, -⟩ := hu; (simp only [rel.put_lit, List.set_cons_succ, List.set_cons_zero])))
        refine rel.walk_nil ?_
        intro w9 K9 hF
        have hu : wbt.IsSet w9 w9.heap.size (wbt.rv qcn) D := hF _ (List.mem_cons_self ..)
        have hR9 := hAc.on K9
        have d0 := hR9.cell 0
        simp only [List.getElem?_cons_zero] at d0
        have f0 := hR9.free 0
        clear hF hop
        simp only [List.drop_succ_cons, List.drop_zero]
        go_wp2_with fail
        obtain ⟨Wdc, hW9, hAcn, hScn, hBn, hKp, hsz, hot⟩ := wbt.stored  hR9 (by omega) (hB.trans (K9.mono hB.size)) hu
        have hAan := hot _ _ _ (by omega) (hAa.on K9)
        have hSan : avl.IsSet Wdc Wdc.heap.size (sch.rv qan D.length) D := ((hSa.on K9).keep hKp).mono (Nat.le_of_eq hsz.symm)
        have hAbn := hot _ _ _ (by omega) (hAb.on K9)
        have hSbn : red.IsSet Wdc Wdc.heap.size (sch.rv qbn D.length) D := ((hSb.on K9).keep hKp).mono (Nat.le_of_eq hsz.symm)
        have hAdn := hot _ _ _ (by omega) (hAd.on K9)
        have hSdn : trp.IsSet Wdc Wdc.heap.size (sch.rv qd M.length) M := ((hSd.on K9).keep hKp).mono (Nat.le_of_eq hsz.symm)
        have hAen := hot _ _ _ (by omega) (hAe.on K9)
        have hSen : spl.IsSet Wdc Wdc.heap.size (sch.rv qe M.length) M := ((hSe.on K9).keep hKp).mono (Nat.le_of_eq hsz.symm)
        rw [hW9]
        clear hW9 d0 f0 hR9 hu K9 hcx hbw hKp hsz hot hB hAa hAb hAc hAd hAe hSa hSb hSc hSd hSe
        have hB := hBn
        have hAa := hAan
        have hAb := hAbn
        have hAc := hAcn
        have hAd := hAdn
        have hAe := hAen
        have hSa := hSan
        have hSb := hSbn
        have hSc := hScn
        have hSd := hSdn
        have hSe := hSen
        clear hBn hAan hSan hAbn hSbn hAcn hScn hAdn hSdn hAen hSen
        have hcx := hcy _ hB
        have hbw := Nat.lt_of_lt_of_le hbb hB.size
        have hop := fun W (hW : Below Wdc.heap.size Wdc W) => drop_trp hD (hSd.on hW) hwy (by omega)
        go_wp2_with fail
        apply rel.region_tail (C := fun w' => Below Wdc.heap.size Wdc w') (X := fun w w' => Below w.heap.size w w') 6 (by kernel_rfl) (by kernel_rfl) (by kernel_rfl) (by kernel_rfl) ((Below.refl _ _).drew)
        ((apply rel.walk_val; (focus (intro wq hq hf; (obtain ⟨d0, d1⟩ := ((hAd).below hq (hAd).lt).cells2); go_wp2; refine ⟨hq, Below.refl _ _, ?_, rfl⟩; (show rel.slot _ _ = _; simp only [rel.slot_lit, List.getD_cons_succ, List.getD_cons_zero]; (first | done | exact rfl)))); (simp only [rel.put_lit, List.set_cons_succ, List.set_cons_zero])))
        (apply rel.walk_val; (focus (intro wq hq hf; go_wp2; refine ⟨hq, Below.refl _ _, ?_, rfl⟩; (show rel.slot _ _ = _; simp only [rel.slot_lit, List.getD_cons_succ, List.getD_cons_zero]; (first | done | exact rfl)))); (simp only [rel.put_lit, List.set_cons_succ, List.set_cons_zero]))
        (apply rel.walk_val; (focus (intro wq hq hf; go_wp2; refine ⟨hq, Below.refl _ _, ?_, rfl⟩; (show rel.slot _ _ = _; simp only [rel.slot_lit, List.getD_cons_succ, List.getD_cons_zero]; (first | done | exact rfl)))); (simp only [rel.put_lit, List.set_cons_succ, List.set_cons_zero]))
        (apply rel.walk_val; (focus (intro wq hq hf; go_wp2; refine ⟨hq, Below.refl _ _, ?_, rfl⟩; (show rel.slot _ _ = _; simp only [rel.slot_lit, List.getD_cons_succ, List.getD_cons_zero]; (first | done | exact rfl)))); (simp only [rel.put_lit, List.set_cons_succ, List.set_cons_zero]))
        ((apply rel.walk_val; (focus (intro wq hq hf; (have d0 := (hq.cell (p := ⟨b, off + k, none⟩) hbw).trans hcx); go_wp2; refine ⟨hq, Below.refl _ _, ?_, rfl⟩; (show rel.slot _ _ = _; simp only [rel.slot_lit, List.getD_cons_succ, List.getD_cons_zero]; (first | done | exact rfl)))); (simp only [rel.put_lit, List.set_cons_succ, List.set_cons_zero])))
        (apply rel.walk_rel (fun u w' => trp.IsSet w' w'.heap.size u (D)) ⟨_, rfl⟩ (fun u w1 w2 h1 h2 => h2.on h1); (focus (intro wq hq hf; go_wp2_with (go_at_call 27; with_reducible refine (hop _ hq).mono ?_; rintro e w'' ⟨⟨u, rfl, hu⟩, hb⟩); refine ⟨hq.trans (hb.mono hq.size), hb, ?_, rfl⟩; (show trp.IsSet _ _ (rel.slot _ _) _; simp only [rel.slot_lit, List.getD_cons_succ, List.getD_cons_zero]; exact hu))); (intro u wu _ hu; obtain ⟨qdn, t_qdn, rfl, -⟩ := hu; (simp only [rel.put_lit, List.set_cons_succ, List.set_cons_zero])))
        refine rel.walk_nil ?_
        intro w9 K9 hF
        have hu : trp.IsSet w9 w9.heap.size (sch.rv qdn D.length) D := hF _ (List.mem_cons_self ..)
        have hR9 := hAd.on K9
        obtain ⟨d0, d1⟩ := hR9.cells2
        have f0 := hR9.free 0
        have f1' := hR9.free 1
        clear hF hop
        simp only [List.drop_succ_cons, List.drop_zero]
        go_wp2_with fail
        obtain ⟨Wdd, hW9, hAdn, hSdn, hBn, hKp, hsz, hot⟩ := trp.stored (k := (D.length : Int)) rfl hR9 (by omega) (hB.trans (K9.mono hB.size)) hu
        have hAan := hot _ _ _ (by omega) (hAa.on K9)
        have hSan : avl.IsSet Wdd Wdd.heap.size (sch.rv qan D.length) D := ((hSa.on K9).keep hKp).mono (Nat.le_of_eq hsz.symm)
        have hAbn := hot _ _ _ (by omega) (hAb.on K9)
        have hSbn : red.IsSet Wdd Wdd.heap.size (sch.rv qbn D.length) D := ((hSb.on K9).keep hKp).mono (Nat.le_of_eq hsz.symm)
        have hAcn := hot _ _ _ (by omega) (hAc.on K9)
        have hScn : wbt.IsSet Wdd Wdd.heap.size (wbt.rv qcn) D := ((hSc.on K9).keep hKp).mono (Nat.le_of_eq hsz.symm)
        have hAen := hot _ _ _ (by omega) (hAe.on K9)
        have hSen : spl.IsSet Wdd Wdd.heap.size (sch.rv qe M.length) M := ((hSe.on K9).keep hKp).mono (Nat.le_of_eq hsz.symm)
        rw [hW9]
        clear hW9 d0 f0 hR9 hu K9 hcx hbw hKp hsz hot hB hAa hAb hAc hAd hAe hSa hSb hSc hSd hSe d1 f1'
        have hB := hBn
        have hAa := hAan
        have hAb := hAbn
        have hAc := hAcn
        have hAd := hAdn
        have hAe := hAen
        have hSa := hSan
        have hSb := hSbn
        have hSc := hScn
        have hSd := hSdn
        have hSe := hSen
        clear hBn hAan hSan hAbn hSbn hAcn hScn hAdn hSdn hAen hSen
        have hcx := hcy _ hB
        have hbw := Nat.lt_of_lt_of_le hbb hB.size
        have hop := fun W (hW : Below Wdd.heap.size Wdd W) => drop_spl hD (hSe.on hW) hwy (by omega)
        go_wp2_with fail
        apply rel.region_tail (C := fun w' => Below Wdd.heap.size Wdd w') (X := fun w w' => Below w.heap.size w w') 6 (by kernel_rfl) (by kernel_rfl) (by kernel_rfl) (by kernel_rfl) ((Below.refl _ _).drew)
        ((apply rel.walk_val; (focus (intro wq hq hf; (obtain ⟨d0, d1⟩ := ((hAe).below hq (hAe).lt).cells2); go_wp2; refine ⟨hq, Below.refl _ _, ?_, rfl⟩; (show rel.slot _ _ = _; simp only [rel.slot_lit, List.getD_cons_succ, List.getD_cons_zero]; (first | done | exact rfl)))); (simp only [rel.put_lit, List.set_cons_succ, List.set_cons_zero])))
        (apply rel.walk_val; (focus (intro wq hq hf; go_wp2; refine ⟨hq, Below.refl _ _, ?_, rfl⟩; (show rel.slot _ _ = _; simp only [rel.slot_lit, List.getD_cons_succ, List.getD_cons_zero]; (first | done | exact rfl)))); (simp only [rel.put_lit, List.set_cons_succ, List.set_cons_zero]))
        (apply rel.walk_val; (focus (intro wq hq hf; go_wp2; refine ⟨hq, Below.refl _ _, ?_, rfl⟩; (show rel.slot _ _ = _; simp only [rel.slot_lit, List.getD_cons_succ, List.getD_cons_zero]; (first | done | exact rfl)))); (simp only [rel.put_lit, List.set_cons_succ, List.set_cons_zero]))
        (apply rel.walk_val; (focus (intro wq hq hf; go_wp2; refine ⟨hq, Below.refl _ _, ?_, rfl⟩; (show rel.slot _ _ = _; simp only [rel.slot_lit, List.getD_cons_succ, List.getD_cons_zero]; (first | done | exact rfl)))); (simp only [rel.put_lit, List.set_cons_succ, List.set_cons_zero]))
        ((apply rel.walk_val; (focus (intro wq hq hf; (have d0 := (hq.cell (p := ⟨b, off + k, none⟩) hbw).trans hcx); go_wp2; refine ⟨hq, Below.refl _ _, ?_, rfl⟩; (show rel.slot _ _ = _; simp only [rel.slot_lit, List.getD_cons_succ, List.getD_cons_zero]; (first | done | exact rfl)))); (simp only [rel.put_lit, List.set_cons_succ, List.set_cons_zero])))
        (apply rel.walk_rel (fun u w' => spl.IsSet w' w'.heap.size u (D)) ⟨_, rfl⟩ (fun u w1 w2 h1 h2 => h2.on h1); (focus (intro wq hq hf; go_wp2_with (go_at_call 10; with_reducible refine (hop _ hq).mono ?_; rintro e w'' ⟨⟨u, rfl, hu⟩, hb⟩); refine ⟨hq.trans (hb.mono hq.size), hb, ?_, rfl⟩; (show spl.IsSet _ _ (rel.slot _ _) _; simp only [rel.slot_lit, List.getD_cons_succ, List.getD_cons_zero]; exact hu))); (intro u wu _ hu; obtain ⟨qen, t_qen, rfl, -⟩ := hu; (simp only [rel.put_lit, List.set_cons_succ, List.set_cons_zero])))
        refine rel.walk_nil ?_
        intro w9 K9 hF
        have hu : spl.IsSet w9 w9.heap.size (sch.rv qen D.length) D := hF _ (List.mem_cons_self ..)
        have hR9 := hAe.on K9
        obtain ⟨d0, d1⟩ := hR9.cells2
        have f0 := hR9.free 0
        have f1' := hR9.free 1
        clear hF hop
        simp only [List.drop_succ_cons, List.drop_zero]
        go_wp2_with fail
        obtain ⟨Wde, hW9, hAen, hSen, hBn, hKp, hsz, hot⟩ := spl.stored (k := (D.length : Int)) rfl hR9 (by omega) (hB.trans (K9.mono hB.size)) hu
        have hAan := hot _ _ _ (by omega) (hAa.on K9)
        have hSan : avl.IsSet Wde Wde.heap.size (sch.rv qan D.length) D := ((hSa.on K9).keep hKp).mono (Nat.le_of_eq hsz.symm)
        have hAbn := hot _ _ _ (by omega) (hAb.on K9)
        have hSbn : red.IsSet Wde Wde.heap.size (sch.rv qbn D.length) D := ((hSb.on K9).keep hKp).mono (Nat.le_of_eq hsz.symm)
        have hAcn := hot _ _ _ (by omega) (hAc.on K9)
        have hScn : wbt.IsSet Wde Wde.heap.size (wbt.rv qcn) D := ((hSc.on K9).keep hKp).mono (Nat.le_of_eq hsz.symm)
        have hAdn := hot _ _ _ (by omega) (hAd.on K9)
        have hSdn : trp.IsSet Wde Wde.heap.size (sch.rv qdn D.length) D := ((hSd.on K9).keep hKp).mono (Nat.le_of_eq hsz.symm)
        rw [hW9]
        clear hW9 d0 f0 hR9 hu K9 hcx hbw hKp hsz hot hB hAa hAb hAc hAd hAe hSa hSb hSc hSd hSe d1 f1'
        have hB := hBn
        have hAa := hAan
        have hAb := hAbn
        have hAc := hAcn
        have hAd := hAdn
        have hAe := hAen
        have hSa := hSan
        have hSb := hSbn
        have hSc := hScn
        have hSd := hSdn
        have hSe := hSen
        clear hBn hAan hSan hAbn hSbn hAcn hScn hAdn hSdn hAen hSen
        have hcx := hcy _ hB
        have hbw := Nat.lt_of_lt_of_le hbb hB.size
        go_wp2_with fail
        go_roundw
        (case rel => exact ⟨k + 1, D, qan, qbn, qcn, qdn, qen, by go_num, by omega, by omega, hB, hAa, hAb, hAc, hAd, hAe, hSa, hSb, hSc, hSd, hSe⟩)
        (case measure => simp [intOf]; omega)
      · have hdl := ins_le y M
        obtain ⟨D, hD⟩ : ∃ D, ins y M = D := ⟨_, rfl⟩
        rw [hD] at hdl
        have hcs : (∃ b1 o1, a1 = some ⟨b1, o1, none⟩ ∧ k < n1 ∧ b1 < wr.heap.size ∧ wr.cell? ⟨b1, o1 + k, none⟩ = some (.bool false)) ∨ ¬ k < n1 := by
          by_cases hkn : k < n1
          · obtain ⟨b1, o1, rfl, hb1, hd1⟩ := hc1 (by omega)
            have hft : f1 k = false := by
              cases h : f1 k with
              | false => rfl
              | true => exact absurd ⟨hkn, h⟩ hdr
            exact .inl ⟨b1, o1, rfl, hkn, Nat.lt_of_lt_of_le hb1 hB.size, by rw [(hB.cell (p := ⟨b1, o1 + k, none⟩) hb1).trans (hd1 k hkn), hft]⟩
          · exact .inr hkn
        clear hc1 hdr
        rcases hcs with ⟨b1, o1, rfl, hkn, hb1w, hy2⟩ | hkn <;> (
        have hop := fun W (hW : Below wr.heap.size wr W) => put_avl hD (hSa.on hW) hwy (by omega)
        go_wp2_with fail
        apply rel.region_tail (C := fun w' => Below wr.heap.size wr w') (X := fun w w' => Below w.heap.size w w') 6 (by kernel_rfl) (by kernel_rfl) (by kernel_rfl) (by kernel_rfl) ((Below.refl _ _).drew)
        ((apply rel.walk_val; (focus (intro wq hq hf; (obtain ⟨d0, d1⟩ := ((hAa).below hq (hAa).lt).cells2); go_wp2; refine ⟨hq, Below.refl _ _, ?_, rfl⟩; (show rel.slot _ _ = _; simp only [rel.slot_lit, List.getD_cons_succ, List.getD_cons_zero]; (first | done | exact rfl)))); (simp only [rel.put_lit, List.set_cons_succ, List.set_cons_zero])))
        (apply rel.walk_val; (focus (intro wq hq hf; go_wp2; refine ⟨hq, Below.refl _ _, ?_, rfl⟩; (show rel.slot _ _ = _; simp only [rel.slot_lit, List.getD_cons_succ, List.getD_cons_zero]; (first | done | exact rfl)))); (simp only [rel.put_lit, List.set_cons_succ, List.set_cons_zero]))
        (apply rel.walk_val; (focus (intro wq hq hf; go_wp2; refine ⟨hq, Below.refl _ _, ?_, rfl⟩; (show rel.slot _ _ = _; simp only [rel.slot_lit, List.getD_cons_succ, List.getD_cons_zero]; (first | done | exact rfl)))); (simp only [rel.put_lit, List.set_cons_succ, List.set_cons_zero]))
        (apply rel.walk_val; (focus (intro wq hq hf; go_wp2; refine ⟨hq, Below.refl _ _, ?_, rfl⟩; (show rel.slot _ _ = _; simp only [rel.slot_lit, List.getD_cons_succ, List.getD_cons_zero]; (first | done | exact rfl)))); (simp only [rel.put_lit, List.set_cons_succ, List.set_cons_zero]))
        ((apply rel.walk_val; (focus (intro wq hq hf; (have d0 := (hq.cell (p := ⟨b, off + k, none⟩) hbw).trans hcx); go_wp2; refine ⟨hq, Below.refl _ _, ?_, rfl⟩; (show rel.slot _ _ = _; simp only [rel.slot_lit, List.getD_cons_succ, List.getD_cons_zero]; (first | done | exact rfl)))); (simp only [rel.put_lit, List.set_cons_succ, List.set_cons_zero])))
        (apply rel.walk_rel (fun u w' => avl.IsSet w' w'.heap.size u (D)) ⟨_, rfl⟩ (fun u w1 w2 h1 h2 => h2.on h1); (focus (intro wq hq hf; go_wp2_with (go_at_call 28; with_reducible refine (hop _ hq).mono ?_; rintro e w'' ⟨⟨u, rfl, hu⟩, hb⟩); refine ⟨hq.trans (hb.mono hq.size), hb, ?_, rfl⟩; (show avl.IsSet _ _ (rel.slot _ _) _; simp only [rel.slot_lit, List.getD_cons_succ, List.getD_cons_zero]; exact hu))); (intro u wu _ hu; obtain ⟨qan, t_qan, rfl, -⟩ := hu; (simp only [rel.put_lit, List.set_cons_succ, List.set_cons_zero])))
        refine rel.walk_nil ?_
        intro w9 K9 hF
        have hu : avl.IsSet w9 w9.heap.size (sch.rv qan D.length) D := hF _ (List.mem_cons_self ..)
        have hR9 := hAa.on K9
        obtain ⟨d0, d1⟩ := hR9.cells2
        have f0 := hR9.free 0
        have f1' := hR9.free 1
        clear hF hop
        simp only [List.drop_succ_cons, List.drop_zero]
        go_wp2_with fail
        obtain ⟨Wpa, hW9, hAan, hSan, hBn, hKp, hsz, hot⟩ := avl.stored (k := (D.length : Int)) rfl hR9 (by omega) (hB.trans (K9.mono hB.size)) hu
        have hAbn := hot _ _ _ (by omega) (hAb.on K9)
        have hSbn : red.IsSet Wpa Wpa.heap.size (sch.rv qb M.length) M := ((hSb.on K9).keep hKp).mono (Nat.le_of_eq hsz.symm)
        have hAcn := hot _ _ _ (by omega) (hAc.on K9)
        have hScn : wbt.IsSet Wpa Wpa.heap.size (wbt.rv qc) M := ((hSc.on K9).keep hKp).mono (Nat.le_of_eq hsz.symm)
        have hAdn := hot _ _ _ (by omega) (hAd.on K9)
        have hSdn : trp.IsSet Wpa Wpa.heap.size (sch.rv qd M.length) M := ((hSd.on K9).keep hKp).mono (Nat.le_of_eq hsz.symm)
        have hAen := hot _ _ _ (by omega) (hAe.on K9)
        have hSen : spl.IsSet Wpa Wpa.heap.size (sch.rv qe M.length) M := ((hSe.on K9).keep hKp).mono (Nat.le_of_eq hsz.symm)
        rw [hW9]
        clear hW9 d0 f0 hR9 hu K9 hcx hbw hKp hsz hot hB hAa hAb hAc hAd hAe hSa hSb hSc hSd hSe d1 f1'
        have hB := hBn
        have hAa := hAan
        have hAb := hAbn
        have hAc := hAcn
        have hAd := hAdn
        have hAe := hAen
        have hSa := hSan
        have hSb := hSbn
        have hSc := hScn
        have hSd := hSdn
        have hSe := hSen
        clear hBn hAan hSan hAbn hSbn hAcn hScn hAdn hSdn hAen hSen
        have hcx := hcy _ hB
        have hbw := Nat.lt_of_lt_of_le hbb hB.size
        have hop := fun W (hW : Below Wpa.heap.size Wpa W) => put_red hD (hSb.on hW) hwy (by omega)
        go_wp2_with fail
        apply rel.region_tail (C := fun w' => Below Wpa.heap.size Wpa w') (X := fun w w' => Below w.heap.size w w') 6 (by kernel_rfl) (by kernel_rfl) (by kernel_rfl) (by kernel_rfl) ((Below.refl _ _).drew)
        ((apply rel.walk_val; (focus (intro wq hq hf; (obtain ⟨d0, d1⟩ := ((hAb).below hq (hAb).lt).cells2); go_wp2; refine ⟨hq, Below.refl _ _, ?_, rfl⟩; (show rel.slot _ _ = _; simp only [rel.slot_lit, List.getD_cons_succ, List.getD_cons_zero]; (first | done | exact rfl)))); (simp only [rel.put_lit, List.set_cons_succ, List.set_cons_zero])))
        (apply rel.walk_val; (focus (intro wq hq hf; go_wp2; refine ⟨hq, Below.refl _ _, ?_, rfl⟩; (show rel.slot _ _ = _; simp only [rel.slot_lit, List.getD_cons_succ, List.getD_cons_zero]; (first | done | exact rfl)))); (simp only [rel.put_lit, List.set_cons_succ, List.set_cons_zero]))
        (apply rel.walk_val; (focus (intro wq hq hf; go_wp2; refine ⟨hq, Below.refl _ _, ?_, rfl⟩; (show rel.slot _ _ = _; simp only [rel.slot_lit, List.getD_cons_succ, List.getD_cons_zero]; (first | done | exact rfl)))); (simp only [rel.put_lit, List.set_cons_succ, List.set_cons_zero]))
        (apply rel.walk_val; (focus (intro wq hq hf; go_wp2; refine ⟨hq, Below.refl _ _, ?_, rfl⟩; (show rel.slot _ _ = _; simp only [rel.slot_lit, List.getD_cons_succ, List.getD_cons_zero]; (first | done | exact rfl)))); (simp only [rel.put_lit, List.set_cons_succ, List.set_cons_zero]))
        ((apply rel.walk_val; (focus (intro wq hq hf; (have d0 := (hq.cell (p := ⟨b, off + k, none⟩) hbw).trans hcx); go_wp2; refine ⟨hq, Below.refl _ _, ?_, rfl⟩; (show rel.slot _ _ = _; simp only [rel.slot_lit, List.getD_cons_succ, List.getD_cons_zero]; (first | done | exact rfl)))); (simp only [rel.put_lit, List.set_cons_succ, List.set_cons_zero])))
        (apply rel.walk_rel (fun u w' => red.IsSet w' w'.heap.size u (D)) ⟨_, rfl⟩ (fun u w1 w2 h1 h2 => h2.on h1); (focus (intro wq hq hf; go_wp2_with (go_at_call 29; with_reducible refine (hop _ hq).mono ?_; rintro e w'' ⟨⟨u, rfl, hu⟩, hb⟩); refine ⟨hq.trans (hb.mono hq.size), hb, ?_, rfl⟩; (show red.IsSet _ _ (rel.slot _ _) _; simp only [rel.slot_lit, List.getD_cons_succ, List.getD_cons_zero]; exact hu))); (intro u wu _ hu; obtain ⟨qbn, t_qbn, rfl, -⟩ := hu; (simp only [rel.put_lit, List.set_cons_succ, List.set_cons_zero])))
        refine rel.walk_nil ?_
        intro w9 K9 hF
        have hu : red.IsSet w9 w9.heap.size (sch.rv qbn D.length) D := hF _ (List.mem_cons_self ..)
        have hR9 := hAb.on K9
        obtain ⟨d0, d1⟩ := hR9.cells2
        have f0 := hR9.free 0
        have f1' := hR9.free 1
        clear hF hop
        simp only [List.drop_succ_cons, List.drop_zero]
        go_wp2_with fail
        obtain ⟨Wpb, hW9, hAbn, hSbn, hBn, hKp, hsz, hot⟩ := red.stored (k := (D.length : Int)) rfl hR9 (by omega) (hB.trans (K9.mono hB.size)) hu
        have hAan := hot _ _ _ (by omega) (hAa.on K9)
        have hSan : avl.IsSet Wpb Wpb.heap.size (sch.rv qan D.length) D := ((hSa.on K9).keep hKp).mono (Nat.le_of_eq hsz.symm)
        have hAcn := hot _ _ _ (by omega) (hAc.on K9)
        have hScn : wbt.IsSet Wpb Wpb.heap.size (wbt.rv qc) M := ((hSc.on K9).keep hKp).mono (Nat.le_of_eq hsz.symm)
        have hAdn := hot _ _ _ (by omega) (hAd.on K9)
        have hSdn : trp.IsSet Wpb Wpb.heap.size (sch.rv qd M.length) M := ((hSd.on K9).keep hKp).mono (Nat.le_of_eq hsz.symm)
        have hAen := hot _ _ _ (by omega) (hAe.on K9)
        have hSen : spl.IsSet Wpb Wpb.heap.size (sch.rv qe M.length) M := ((hSe.on K9).keep hKp).mono (Nat.le_of_eq hsz.symm)
        rw [hW9]
        clear hW9 d0 f0 hR9 hu K9 hcx hbw hKp hsz hot hB hAa hAb hAc hAd hAe hSa hSb hSc hSd hSe d1 f1'
        have hB := hBn
        have hAa := hAan
        have hAb := hAbn
        have hAc := hAcn
        have hAd := hAdn
        have hAe := hAen
        have hSa := hSan
        have hSb := hSbn
        have hSc := hScn
        have hSd := hSdn
        have hSe := hSen
        clear hBn hAan hSan hAbn hSbn hAcn hScn hAdn hSdn hAen hSen
        have hcx := hcy _ hB
        have hbw := Nat.lt_of_lt_of_le hbb hB.size
        have hop := fun W (hW : Below Wpb.heap.size Wpb W) => put_wbt hD (hSc.on hW) hwy (by omega)
        go_wp2_with fail
        apply rel.region_tail (C := fun w' => Below Wpb.heap.size Wpb w') (X := fun w w' => Below w.heap.size w w') 6 (by kernel_rfl) (by kernel_rfl) (by kernel_rfl) (by kernel_rfl) ((Below.refl _ _).drew)
        ((apply rel.walk_val; (focus (intro wq hq hf; (have d0 := (((hAc).below hq (hAc).lt)).cell 0; simp only [List.getElem?_cons_zero] at d0); go_wp2; refine ⟨hq, Below.refl _ _, ?_, rfl⟩; (show rel.slot _ _ = _; simp only [rel.slot_lit, List.getD_cons_succ, List.getD_cons_zero]; (first | done | exact rfl)))); (simp only [rel.put_lit, List.set_cons_succ, List.set_cons_zero])))
        (apply rel.walk_val; (focus (intro wq hq hf; go_wp2; refine ⟨hq, Below.refl _ _, ?_, rfl⟩; (show rel.slot _ _ = _; simp only [rel.slot_lit, List.getD_cons_succ, List.getD_cons_zero]; (first | done | exact rfl)))); (simp only [rel.put_lit, List.set_cons_succ, List.set_cons_zero]))
        (apply rel.walk_val; (focus (intro wq hq hf; go_wp2; refine ⟨hq, Below.refl _ _, ?_, rfl⟩; (show rel.slot _ _ = _; simp only [rel.slot_lit, List.getD_cons_succ, List.getD_cons_zero]; (first | done | exact rfl)))); (simp only [rel.put_lit, List.set_cons_succ, List.set_cons_zero]))
        (apply rel.walk_val; (focus (intro wq hq hf; go_wp2; refine ⟨hq, Below.refl _ _, ?_, rfl⟩; (show rel.slot _ _ = _; simp only [rel.slot_lit, List.getD_cons_succ, List.getD_cons_zero]; (first | done | exact rfl)))); (simp only [rel.put_lit, List.set_cons_succ, List.set_cons_zero]))
        ((apply rel.walk_val; (focus (intro wq hq hf; (have d0 := (hq.cell (p := ⟨b, off + k, none⟩) hbw).trans hcx); go_wp2; refine ⟨hq, Below.refl _ _, ?_, rfl⟩; (show rel.slot _ _ = _; simp only [rel.slot_lit, List.getD_cons_succ, List.getD_cons_zero]; (first | done | exact rfl)))); (simp only [rel.put_lit, List.set_cons_succ, List.set_cons_zero])))
        (apply rel.walk_rel (fun u w' => wbt.IsSet w' w'.heap.size u (D)) ⟨_, rfl⟩ (fun u w1 w2 h1 h2 => h2.on h1); (focus (intro wq hq hf; go_wp2_with (go_at_call 30; with_reducible refine (hop _ hq).mono ?_; rintro e w'' ⟨⟨u, rfl, hu⟩, hb⟩); refine ⟨hq.trans (hb.mono hq.size), hb, ?_, rfl⟩; (show wbt.IsSet _ _ (rel.slot _ _) _; simp only [rel.slot_lit, List.getD_cons_succ, List.getD_cons_zero]; exact hu))); (intro u wu _ hu; obtain ⟨qcn, t_qcn, rfl, -⟩ := hu; (simp only [rel.put_lit, List.set_cons_succ, List.set_cons_zero])))
        refine rel.walk_nil ?_
        intro w9 K9 hF
        have hu : wbt.IsSet w9 w9.heap.size (wbt.rv qcn) D := hF _ (List.mem_cons_self ..)
        have hR9 := hAc.on K9
        have d0 := hR9.cell 0
        simp only [List.getElem?_cons_zero] at d0
        have f0 := hR9.free 0
        clear hF hop
        simp only [List.drop_succ_cons, List.drop_zero]
        go_wp2_with fail
        obtain ⟨Wpc, hW9, hAcn, hScn, hBn, hKp, hsz, hot⟩ := wbt.stored  hR9 (by omega) (hB.trans (K9.mono hB.size)) hu
        have hAan := hot _ _ _ (by omega) (hAa.on K9)
        have hSan : avl.IsSet Wpc Wpc.heap.size (sch.rv qan D.length) D := ((hSa.on K9).keep hKp).mono (Nat.le_of_eq hsz.symm)
        have hAbn := hot _ _ _ (by omega) (hAb.on K9)
        have hSbn : red.IsSet Wpc Wpc.heap.size (sch.rv qbn D.length) D := ((hSb.on K9).keep hKp).mono (Nat.le_of_eq hsz.symm)
        have hAdn := hot _ _ _ (by omega) (hAd.on K9)
        have hSdn : trp.IsSet Wpc Wpc.heap.size (sch.rv qd M.length) M := ((hSd.on K9).keep hKp).mono (Nat.le_of_eq hsz.symm)
        have hAen := hot _ _ _ (by omega) (hAe.on K9)
        have hSen : spl.IsSet Wpc Wpc.heap.size (sch.rv qe M.length) M := ((hSe.on K9).keep hKp).mono (Nat.le_of_eq hsz.symm)
        rw [hW9]
        clear hW9 d0 f0 hR9 hu K9 hcx hbw hKp hsz hot hB hAa hAb hAc hAd hAe hSa hSb hSc hSd hSe
        have hB := hBn
        have hAa := hAan
        have hAb := hAbn
        have hAc := hAcn
        have hAd := hAdn
        have hAe := hAen
        have hSa := hSan
        have hSb := hSbn
        have hSc := hScn
        have hSd := hSdn
        have hSe := hSen
        clear hBn hAan hSan hAbn hSbn hAcn hScn hAdn hSdn hAen hSen
        have hcx := hcy _ hB
        have hbw := Nat.lt_of_lt_of_le hbb hB.size
        have hop := fun W (hW : Below Wpc.heap.size Wpc W) => put_trp hD (hSd.on hW) hwy (by omega)
        go_wp2_with fail
        apply rel.region_tail (C := fun w' => Below Wpc.heap.size Wpc w') (X := fun w w' => Below w.heap.size w w') 6 (by kernel_rfl) (by kernel_rfl) (by kernel_rfl) (by kernel_rfl) ((Below.refl _ _).drew)
        ((apply rel.walk_val; (focus (intro wq hq hf; (obtain ⟨d0, d1⟩ := ((hAd).below hq (hAd).lt).cells2); go_wp2; refine ⟨hq, Below.refl _ _, ?_, rfl⟩; (show rel.slot _ _ = _; simp only [rel.slot_lit, List.getD_cons_succ, List.getD_cons_zero]; (first | done | exact rfl)))); (simp only [rel.put_lit, List.set_cons_succ, List.set_cons_zero])))
        (apply rel.walk_val; (focus (intro wq hq hf; go_wp2; refine ⟨hq, Below.refl _ _, ?_, rfl⟩; (show rel.slot _ _ = _; simp only [rel.slot_lit, List.getD_cons_succ, List.getD_cons_zero]; (first | done | exact rfl)))); (simp only [rel.put_lit, List.set_cons_succ, List.set_cons_zero]))
        (apply rel.walk_val; (focus (intro wq hq hf; go_wp2; refine ⟨hq, Below.refl _ _, ?_, rfl⟩; (show rel.slot _ _ = _; simp only [rel.slot_lit, List.getD_cons_succ, List.getD_cons_zero]; (first | done | exact rfl)))); (simp only [rel.put_lit, List.set_cons_succ, List.set_cons_zero]))
        (apply rel.walk_val; (focus (intro wq hq hf; go_wp2; refine ⟨hq, Below.refl _ _, ?_, rfl⟩; (show rel.slot _ _ = _; simp only [rel.slot_lit, List.getD_cons_succ, List.getD_cons_zero]; (first | done | exact rfl)))); (simp only [rel.put_lit, List.set_cons_succ, List.set_cons_zero]))
        ((apply rel.walk_val; (focus (intro wq hq hf; (have d0 := (hq.cell (p := ⟨b, off + k, none⟩) hbw).trans hcx); go_wp2; refine ⟨hq, Below.refl _ _, ?_, rfl⟩; (show rel.slot _ _ = _; simp only [rel.slot_lit, List.getD_cons_succ, List.getD_cons_zero]; (first | done | exact rfl)))); (simp only [rel.put_lit, List.set_cons_succ, List.set_cons_zero])))
        (apply rel.walk_rel (fun u w' => trp.IsSet w' w'.heap.size u (D)) ⟨_, rfl⟩ (fun u w1 w2 h1 h2 => h2.on h1); (focus (intro wq hq hf; go_wp2_with (go_at_call 31; with_reducible refine (hop _ hq).mono ?_; rintro e w'' ⟨⟨u, rfl, hu⟩, hb⟩); refine ⟨hq.trans (hb.mono hq.size), hb, ?_, rfl⟩; (show trp.IsSet _ _ (rel.slot _ _) _; simp only [rel.slot_lit, List.getD_cons_succ, List.getD_cons_zero]; exact hu))); (intro u wu _ hu; obtain ⟨qdn, t_qdn, rfl, -⟩ := hu; (simp only [rel.put_lit, List.set_cons_succ, List.set_cons_zero])))
        refine rel.walk_nil ?_
        intro w9 K9 hF
        have hu : trp.IsSet w9 w9.heap.size (sch.rv qdn D.length) D := hF _ (List.mem_cons_self ..)
        have hR9 := hAd.on K9
        obtain ⟨d0, d1⟩ := hR9.cells2
        have f0 := hR9.free 0
        have f1' := hR9.free 1
        clear hF hop
        simp only [List.drop_succ_cons, List.drop_zero]
        go_wp2_with fail
        obtain ⟨Wpd, hW9, hAdn, hSdn, hBn, hKp, hsz, hot⟩ := trp.stored (k := (D.length : Int)) rfl hR9 (by omega) (hB.trans (K9.mono hB.size)) hu
        have hAan := hot _ _ _ (by omega) (hAa.on K9)
        have hSan : avl.IsSet Wpd Wpd.heap.size (sch.rv qan D.length) D := ((hSa.on K9).keep hKp).mono (Nat.le_of_eq hsz.symm)
        have hAbn := hot _ _ _ (by omega) (hAb.on K9)
        have hSbn : red.IsSet Wpd Wpd.heap.size (sch.rv qbn D.length) D := ((hSb.on K9).keep hKp).mono (Nat.le_of_eq hsz.symm)
        have hAcn := hot _ _ _ (by omega) (hAc.on K9)
        have hScn : wbt.IsSet Wpd Wpd.heap.size (wbt.rv qcn) D := ((hSc.on K9).keep hKp).mono (Nat.le_of_eq hsz.symm)
        have hAen := hot _ _ _ (by omega) (hAe.on K9)
        have hSen : spl.IsSet Wpd Wpd.heap.size (sch.rv qe M.length) M := ((hSe.on K9).keep hKp).mono (Nat.le_of_eq hsz.symm)
        rw [hW9]
        clear hW9 d0 f0 hR9 hu K9 hcx hbw hKp hsz hot hB hAa hAb hAc hAd hAe hSa hSb hSc hSd hSe d1 f1'
        have hB := hBn
        have hAa := hAan
        have hAb := hAbn
        have hAc := hAcn
        have hAd := hAdn
        have hAe := hAen
        have hSa := hSan
        have hSb := hSbn
        have hSc := hScn
        have hSd := hSdn
        have hSe := hSen
        clear hBn hAan hSan hAbn hSbn hAcn hScn hAdn hSdn hAen hSen
        have hcx := hcy _ hB
        have hbw := Nat.lt_of_lt_of_le hbb hB.size
        have hop := fun W (hW : Below Wpd.heap.size Wpd W) => put_spl hD (hSe.on hW) hwy (by omega)
        go_wp2_with fail
        apply rel.region_tail (C := fun w' => Below Wpd.heap.size Wpd w') (X := fun w w' => Below w.heap.size w w') 6 (by kernel_rfl) (by kernel_rfl) (by kernel_rfl) (by kernel_rfl) ((Below.refl _ _).drew)
        ((apply rel.walk_val; (focus (intro wq hq hf; (obtain ⟨d0, d1⟩ := ((hAe).below hq (hAe).lt).cells2); go_wp2; refine ⟨hq, Below.refl _ _, ?_, rfl⟩; (show rel.slot _ _ = _; simp only [rel.slot_lit, List.getD_cons_succ, List.getD_cons_zero]; (first | done | exact rfl)))); (simp only [rel.put_lit, List.set_cons_succ, List.set_cons_zero])))
        (apply rel.walk_val; (focus (intro wq hq hf; go_wp2; refine ⟨hq, Below.refl _ _, ?_, rfl⟩; (show rel.slot _ _ = _; simp only [rel.slot_lit, List.getD_cons_succ, List.getD_cons_zero]; (first | done | exact rfl)))); (simp only [rel.put_lit, List.set_cons_succ, List.set_cons_zero]))
        (apply rel.walk_val; (focus (intro wq hq hf; go_wp2; refine ⟨hq, Below.refl _ _, ?_, rfl⟩; (show rel.slot _ _ = _; simp only [rel.slot_lit, List.getD_cons_succ, List.getD_cons_zero]; (first | done | exact rfl)))); (simp only [rel.put_lit, List.set_cons_succ, List.set_cons_zero]))
        (apply rel.walk_val; (focus (intro wq hq hf; go_wp2; refine ⟨hq, Below.refl _ _, ?_, rfl⟩; (show rel.slot _ _ = _; simp only [rel.slot_lit, List.getD_cons_succ, List.getD_cons_zero]; (first | done | exact rfl)))); (simp only [rel.put_lit, List.set_cons_succ, List.set_cons_zero]))
        ((apply rel.walk_val; (focus (intro wq hq hf; (have d0 := (hq.cell (p := ⟨b, off + k, none⟩) hbw).trans hcx); go_wp2; refine ⟨hq, Below.refl _ _, ?_, rfl⟩; (show rel.slot _ _ = _; simp only [rel.slot_lit, List.getD_cons_succ, List.getD_cons_zero]; (first | done | exact rfl)))); (simp only [rel.put_lit, List.set_cons_succ, List.set_cons_zero])))
        (apply rel.walk_rel (fun u w' => spl.IsSet w' w'.heap.size u (D)) ⟨_, rfl⟩ (fun u w1 w2 h1 h2 => h2.on h1); (focus (intro wq hq hf; go_wp2_with (go_at_call 12; with_reducible refine (hop _ hq).mono ?_; rintro e w'' ⟨⟨u, rfl, hu⟩, hb⟩); refine ⟨hq.trans (hb.mono hq.size), hb, ?_, rfl⟩; (show spl.IsSet _ _ (rel.slot _ _) _; simp only [rel.slot_lit, List.getD_cons_succ, List.getD_cons_zero]; exact hu))); (intro u wu _ hu; obtain ⟨qen, t_qen, rfl, -⟩ := hu; (simp only [rel.put_lit, List.set_cons_succ, List.set_cons_zero])))
        refine rel.walk_nil ?_
        intro w9 K9 hF
        have hu : spl.IsSet w9 w9.heap.size (sch.rv qen D.length) D := hF _ (List.mem_cons_self ..)
        have hR9 := hAe.on K9
        obtain ⟨d0, d1⟩ := hR9.cells2
        have f0 := hR9.free 0
        have f1' := hR9.free 1
        clear hF hop
        simp only [List.drop_succ_cons, List.drop_zero]
        go_wp2_with fail
        obtain ⟨Wpe, hW9, hAen, hSen, hBn, hKp, hsz, hot⟩ := spl.stored (k := (D.length : Int)) rfl hR9 (by omega) (hB.trans (K9.mono hB.size)) hu
        have hAan := hot _ _ _ (by omega) (hAa.on K9)
        have hSan : avl.IsSet Wpe Wpe.heap.size (sch.rv qan D.length) D := ((hSa.on K9).keep hKp).mono (Nat.le_of_eq hsz.symm)
        have hAbn := hot _ _ _ (by omega) (hAb.on K9)
        have hSbn : red.IsSet Wpe Wpe.heap.size (sch.rv qbn D.length) D := ((hSb.on K9).keep hKp).mono (Nat.le_of_eq hsz.symm)
        have hAcn := hot _ _ _ (by omega) (hAc.on K9)
        have hScn : wbt.IsSet Wpe Wpe.heap.size (wbt.rv qcn) D := ((hSc.on K9).keep hKp).mono (Nat.le_of_eq hsz.symm)
        have hAdn := hot _ _ _ (by omega) (hAd.on K9)
        have hSdn : trp.IsSet Wpe Wpe.heap.size (sch.rv qdn D.length) D := ((hSd.on K9).keep hKp).mono (Nat.le_of_eq hsz.symm)
        rw [hW9]
        clear hW9 d0 f0 hR9 hu K9 hcx hbw hKp hsz hot hB hAa hAb hAc hAd hAe hSa hSb hSc hSd hSe d1 f1'
        have hB := hBn
        have hAa := hAan
        have hAb := hAbn
        have hAc := hAcn
        have hAd := hAdn
        have hAe := hAen
        have hSa := hSan
        have hSb := hSbn
        have hSc := hScn
        have hSd := hSdn
        have hSe := hSen
        clear hBn hAan hSan hAbn hSbn hAcn hScn hAdn hSdn hAen hSen
        have hcx := hcy _ hB
        have hbw := Nat.lt_of_lt_of_le hbb hB.size
        go_wp2_with fail
        go_roundw
        (case rel => exact ⟨k + 1, D, qan, qbn, qcn, qdn, qen, by go_num, by omega, by omega, hB, hAa, hAb, hAc, hAd, hAe, hSa, hSb, hSc, hSd, hSe⟩)
        (case measure => simp [intOf]; omega))
    · obtain rfl : k = l0.length := by omega
      have hlM : Hid (M.length ≤ 17592186044416) := Lib.hid (by omega)
      have hlM2 : Hid (M.length ≤ 2097152) := Lib.hid (by omega)
      obtain ⟨bb, eb⟩ : ∃ bb, bb = decide (x ∈ M) := ⟨_, rfl⟩
      replace eb := Lib.hid eb
      obtain ⟨P, hP⟩ : ∃ P, ins x M = P := ⟨_, rfl⟩
      have eP : Hid (true = decide (x ∈ P)) := Lib.hid (by rw [← hP]; simpa using mem_ins.2 (.inl rfl))
      clear hc0 hc1 hwf0 hMk hlt hk
      go_wp2_with fail
      apply rel.region (C := fun w' => Below wr.heap.size wr w') (X := fun w w' => Below w.heap.size w w') (by kernel_rfl) (by kernel_rfl) (by kernel_rfl) ((Below.refl _ _).drew)
      ((apply rel.walk_val; (focus (intro wq hq hf; (obtain ⟨d0, d1⟩ := ((hAa).below hq (hAa).lt).cells2); go_wp2; refine ⟨hq, Below.refl _ _, ?_, rfl⟩; (show rel.slot _ _ = _; simp only [rel.slot_lit, List.getD_cons_succ, List.getD_cons_zero]; (first | done | exact rfl)))); (simp only [rel.put_lit, List.set_cons_succ, List.set_cons_zero])))
      (apply rel.walk_rel (fun u w' => hp.IsInts w' w'.heap.size u (M)) ⟨_, rfl⟩ (fun u w1 w2 h1 h2 => h2.on h1); (focus (intro wq hq hf; go_wp2_with (go_at_call 32; with_reducible refine (avl.ints_any (hSa.on hq) hlM.out).mono ?_; rintro e w'' ⟨⟨u, rfl, hu⟩, hb⟩); refine ⟨hq.trans (hb.mono hq.size), hb, ?_, rfl⟩; (show hp.IsInts _ _ (rel.slot _ _) _; simp only [rel.slot_lit, List.getD_cons_succ, List.getD_cons_zero]; exact hu))); (intro u wu _ hu; obtain ⟨pv, c_pv, rfl, -⟩ := hu; (simp only [rel.put_lit, List.set_cons_succ, List.set_cons_zero])))
      ((apply rel.walk_val; (focus (intro wq hq hf; (obtain ⟨d0, d1⟩ := ((hAb).below hq (hAb).lt).cells2); go_wp2; refine ⟨hq, Below.refl _ _, ?_, rfl⟩; (show rel.slot _ _ = _; simp only [rel.slot_lit, List.getD_cons_succ, List.getD_cons_zero]; (first | done | exact rfl)))); (simp only [rel.put_lit, List.set_cons_succ, List.set_cons_zero])))
      (apply rel.walk_rel (fun u w' => hp.IsInts w' w'.heap.size u (M)) ⟨_, rfl⟩ (fun u w1 w2 h1 h2 => h2.on h1); (focus (intro wq hq hf; go_wp2_with (go_at_call 33; with_reducible refine (red.ints_any (hSb.on hq) hlM.out).mono ?_; rintro e w'' ⟨⟨u, rfl, hu⟩, hb⟩); refine ⟨hq.trans (hb.mono hq.size), hb, ?_, rfl⟩; (show hp.IsInts _ _ (rel.slot _ _) _; simp only [rel.slot_lit, List.getD_cons_succ, List.getD_cons_zero]; exact hu))); (intro u wu _ hu; obtain ⟨pz, c_pz, rfl, -⟩ := hu; (simp only [rel.put_lit, List.set_cons_succ, List.set_cons_zero])))
      (apply rel.walk_val; (focus (intro wq hq hf; go_wp2_with (go_at_call 15; refine (same.ints_eq rfl (hf.get 1 rfl rfl) (hf.get 0 rfl rfl)).mono ?_; rintro e w'' ⟨rfl, hb⟩); refine ⟨hq.trans (hb.mono hq.size), hb, ?_, rfl⟩; (show rel.slot _ _ = _; simp only [rel.slot_lit, List.getD_cons_succ, List.getD_cons_zero]; (first | done | exact rfl)))); (simp only [rel.put_lit, List.set_cons_succ, List.set_cons_zero]))
      (apply rel.walk_val; (focus (intro wq hq hf; go_wp2; refine ⟨hq, Below.refl _ _, ?_, rfl⟩; (show rel.slot _ _ = _; simp only [rel.slot_lit, List.getD_cons_succ, List.getD_cons_zero]; (first | done | exact rfl)))); (simp only [rel.put_lit, List.set_cons_succ, List.set_cons_zero]))
      refine rel.walk_nil ?_
      intro Wz0 K9 hF
      clear hF
      replace hAa := hAa.on K9
      replace hAb := hAb.on K9
      replace hAc := hAc.on K9
      replace hAd := hAd.on K9
      replace hAe := hAe.on K9
      replace hSa := hSa.on K9
      replace hSb := hSb.on K9
      replace hSc := hSc.on K9
      replace hSd := hSd.on K9
      replace hSe := hSe.on K9
      replace hB := st hB K9
      clear K9
      go_wp2_with fail
      apply rel.region (C := fun w' => Below Wz0.heap.size Wz0 w') (X := fun w w' => Below w.heap.size w w') (by kernel_rfl) (by kernel_rfl) (by kernel_rfl) ((Below.refl _ _).drew)
      ((apply rel.walk_val; (focus (intro wq hq hf; (obtain ⟨d0, d1⟩ := ((hAb).below hq (hAb).lt).cells2); go_wp2; refine ⟨hq, Below.refl _ _, ?_, rfl⟩; (show rel.slot _ _ = _; simp only [rel.slot_lit, List.getD_cons_succ, List.getD_cons_zero]; (first | done | exact rfl)))); (simp only [rel.put_lit, List.set_cons_succ, List.set_cons_zero])))
      (apply rel.walk_rel (fun u w' => hp.IsInts w' w'.heap.size u (M)) ⟨_, rfl⟩ (fun u w1 w2 h1 h2 => h2.on h1); (focus (intro wq hq hf; go_wp2_with (go_at_call 33; with_reducible refine (red.ints_any (hSb.on hq) hlM.out).mono ?_; rintro e w'' ⟨⟨u, rfl, hu⟩, hb⟩); refine ⟨hq.trans (hb.mono hq.size), hb, ?_, rfl⟩; (show hp.IsInts _ _ (rel.slot _ _) _; simp only [rel.slot_lit, List.getD_cons_succ, List.getD_cons_zero]; exact hu))); (intro u wu _ hu; obtain ⟨pv, c_pv, rfl, -⟩ := hu; (simp only [rel.put_lit, List.set_cons_succ, List.set_cons_zero])))
      ((apply rel.walk_val; (focus (intro wq hq hf; (have d0 := (((hAc).below hq (hAc).lt)).cell 0; simp only [List.getElem?_cons_zero] at d0); go_wp2; refine ⟨hq, Below.refl _ _, ?_, rfl⟩; (show rel.slot _ _ = _; simp only [rel.slot_lit, List.getD_cons_succ, List.getD_cons_zero]; (first | done | exact rfl)))); (simp only [rel.put_lit, List.set_cons_succ, List.set_cons_zero])))
      (apply rel.walk_rel (fun u w' => hp.IsInts w' w'.heap.size u (M)) ⟨_, rfl⟩ (fun u w1 w2 h1 h2 => h2.on h1); (focus (intro wq hq hf; go_wp2_with (go_at_call 34; with_reducible refine (wbt.ints_any (hSc.on hq) hlM.out).mono ?_; rintro e w'' ⟨⟨u, rfl, hu⟩, hb⟩); refine ⟨hq.trans (hb.mono hq.size), hb, ?_, rfl⟩; (show hp.IsInts _ _ (rel.slot _ _) _; simp only [rel.slot_lit, List.getD_cons_succ, List.getD_cons_zero]; exact hu))); (intro u wu _ hu; obtain ⟨pz, c_pz, rfl, -⟩ := hu; (simp only [rel.put_lit, List.set_cons_succ, List.set_cons_zero])))
      (apply rel.walk_val; (focus (intro wq hq hf; go_wp2_with (go_at_call 15; refine (same.ints_eq rfl (hf.get 1 rfl rfl) (hf.get 0 rfl rfl)).mono ?_; rintro e w'' ⟨rfl, hb⟩); refine ⟨hq.trans (hb.mono hq.size), hb, ?_, rfl⟩; (show rel.slot _ _ = _; simp only [rel.slot_lit, List.getD_cons_succ, List.getD_cons_zero]; (first | done | exact rfl)))); (simp only [rel.put_lit, List.set_cons_succ, List.set_cons_zero]))
      (apply rel.walk_val; (focus (intro wq hq hf; go_wp2; refine ⟨hq, Below.refl _ _, ?_, rfl⟩; (show rel.slot _ _ = _; simp only [rel.slot_lit, List.getD_cons_succ, List.getD_cons_zero]; (first | done | exact rfl)))); (simp only [rel.put_lit, List.set_cons_succ, List.set_cons_zero]))
      refine rel.walk_nil ?_
      intro Wz1 K9 hF
      clear hF
      replace hAa := hAa.on K9
      replace hAb := hAb.on K9
      replace hAc := hAc.on K9
      replace hAd := hAd.on K9
      replace hAe := hAe.on K9
      replace hSa := hSa.on K9
      replace hSb := hSb.on K9
      replace hSc := hSc.on K9
      replace hSd := hSd.on K9
      replace hSe := hSe.on K9
      replace hB := st hB K9
      clear K9
      go_wp2_with fail
      apply rel.region (C := fun w' => Below Wz1.heap.size Wz1 w') (X := fun w w' => Below w.heap.size w w') (by kernel_rfl) (by kernel_rfl) (by kernel_rfl) ((Below.refl _ _).drew)
      ((apply rel.walk_val; (focus (intro wq hq hf; (have d0 := (((hAc).below hq (hAc).lt)).cell 0; simp only [List.getElem?_cons_zero] at d0); go_wp2; refine ⟨hq, Below.refl _ _, ?_, rfl⟩; (show rel.slot _ _ = _; simp only [rel.slot_lit, List.getD_cons_succ, List.getD_cons_zero]; (first | done | exact rfl)))); (simp only [rel.put_lit, List.set_cons_succ, List.set_cons_zero])))
      (apply rel.walk_rel (fun u w' => hp.IsInts w' w'.heap.size u (M)) ⟨_, rfl⟩ (fun u w1 w2 h1 h2 => h2.on h1); (focus (intro wq hq hf; go_wp2_with (go_at_call 34; with_reducible refine (wbt.ints_any (hSc.on hq) hlM.out).mono ?_; rintro e w'' ⟨⟨u, rfl, hu⟩, hb⟩); refine ⟨hq.trans (hb.mono hq.size), hb, ?_, rfl⟩; (show hp.IsInts _ _ (rel.slot _ _) _; simp only [rel.slot_lit, List.getD_cons_succ, List.getD_cons_zero]; exact hu))); (intro u wu _ hu; obtain ⟨pv, c_pv, rfl, -⟩ := hu; (simp only [rel.put_lit, List.set_cons_succ, List.set_cons_zero])))
      ((apply rel.walk_val; (focus (intro wq hq hf; (obtain ⟨d0, d1⟩ := ((hAd).below hq (hAd).lt).cells2); go_wp2; refine ⟨hq, Below.refl _ _, ?_, rfl⟩; (show rel.slot _ _ = _; simp only [rel.slot_lit, List.getD_cons_succ, List.getD_cons_zero]; (first | done | exact rfl)))); (simp only [rel.put_lit, List.set_cons_succ, List.set_cons_zero])))
      (apply rel.walk_rel (fun u w' => hp.IsInts w' w'.heap.size u (M)) ⟨_, rfl⟩ (fun u w1 w2 h1 h2 => h2.on h1); (focus (intro wq hq hf; go_wp2_with (go_at_call 35; with_reducible refine (trp.ints_any (hSd.on hq) hlM.out).mono ?_; rintro e w'' ⟨⟨u, rfl, hu⟩, hb⟩); refine ⟨hq.trans (hb.mono hq.size), hb, ?_, rfl⟩; (show hp.IsInts _ _ (rel.slot _ _) _; simp only [rel.slot_lit, List.getD_cons_succ, List.getD_cons_zero]; exact hu))); (intro u wu _ hu; obtain ⟨pz, c_pz, rfl, -⟩ := hu; (simp only [rel.put_lit, List.set_cons_succ, List.set_cons_zero])))
      (apply rel.walk_val; (focus (intro wq hq hf; go_wp2_with (go_at_call 15; refine (same.ints_eq rfl (hf.get 1 rfl rfl) (hf.get 0 rfl rfl)).mono ?_; rintro e w'' ⟨rfl, hb⟩); refine ⟨hq.trans (hb.mono hq.size), hb, ?_, rfl⟩; (show rel.slot _ _ = _; simp only [rel.slot_lit, List.getD_cons_succ, List.getD_cons_zero]; (first | done | exact rfl)))); (simp only [rel.put_lit, List.set_cons_succ, List.set_cons_zero]))
      (apply rel.walk_val; (focus (intro wq hq hf; go_wp2; refine ⟨hq, Below.refl _ _, ?_, rfl⟩; (show rel.slot _ _ = _; simp only [rel.slot_lit, List.getD_cons_succ, List.getD_cons_zero]; (first | done | exact rfl)))); (simp only [rel.put_lit, List.set_cons_succ, List.set_cons_zero]))
      refine rel.walk_nil ?_
      intro Wz2 K9 hF
      clear hF
      replace hAa := hAa.on K9
      replace hAb := hAb.on K9
      replace hAc := hAc.on K9
      replace hAd := hAd.on K9
      replace hAe := hAe.on K9
      replace hSa := hSa.on K9
      replace hSb := hSb.on K9
      replace hSc := hSc.on K9
      replace hSd := hSd.on K9
      replace hSe := hSe.on K9
      replace hB := st hB K9
      clear K9
      go_wp2_with fail
      apply rel.region (C := fun w' => Below Wz2.heap.size Wz2 w') (X := fun w w' => Below w.heap.size w w') (by kernel_rfl) (by kernel_rfl) (by kernel_rfl) ((Below.refl _ _).drew)
      ((apply rel.walk_val; (focus (intro wq hq hf; (obtain ⟨d0, d1⟩ := ((hAd).below hq (hAd).lt).cells2); go_wp2; refine ⟨hq, Below.refl _ _, ?_, rfl⟩; (show rel.slot _ _ = _; simp only [rel.slot_lit, List.getD_cons_succ, List.getD_cons_zero]; (first | done | exact rfl)))); (simp only [rel.put_lit, List.set_cons_succ, List.set_cons_zero])))
      (apply rel.walk_rel (fun u w' => hp.IsInts w' w'.heap.size u (M)) ⟨_, rfl⟩ (fun u w1 w2 h1 h2 => h2.on h1); (focus (intro wq hq hf; go_wp2_with (go_at_call 35; with_reducible refine (trp.ints_any (hSd.on hq) hlM.out).mono ?_; rintro e w'' ⟨⟨u, rfl, hu⟩, hb⟩); refine ⟨hq.trans (hb.mono hq.size), hb, ?_, rfl⟩; (show hp.IsInts _ _ (rel.slot _ _) _; simp only [rel.slot_lit, List.getD_cons_succ, List.getD_cons_zero]; exact hu))); (intro u wu _ hu; obtain ⟨pv, c_pv, rfl, -⟩ := hu; (simp only [rel.put_lit, List.set_cons_succ, List.set_cons_zero])))
      ((apply rel.walk_val; (focus (intro wq hq hf; (obtain ⟨d0, d1⟩ := ((hAe).below hq (hAe).lt).cells2); go_wp2; refine ⟨hq, Below.refl _ _, ?_, rfl⟩; (show rel.slot _ _ = _; simp only [rel.slot_lit, List.getD_cons_succ, List.getD_cons_zero]; (first | done | exact rfl)))); (simp only [rel.put_lit, List.set_cons_succ, List.set_cons_zero])))
      (apply rel.walk_rel (fun u w' => hp.IsInts w' w'.heap.size u (M)) ⟨_, rfl⟩ (fun u w1 w2 h1 h2 => h2.on h1); (focus (intro wq hq hf; go_wp2_with (go_at_call 16; with_reducible refine (spl.ints_any (hSe.on hq) hlM.out).mono ?_; rintro e w'' ⟨⟨u, rfl, hu⟩, hb⟩); refine ⟨hq.trans (hb.mono hq.size), hb, ?_, rfl⟩; (show hp.IsInts _ _ (rel.slot _ _) _; simp only [rel.slot_lit, List.getD_cons_succ, List.getD_cons_zero]; exact hu))); (intro u wu _ hu; obtain ⟨pz, c_pz, rfl, -⟩ := hu; (simp only [rel.put_lit, List.set_cons_succ, List.set_cons_zero])))
      (apply rel.walk_val; (focus (intro wq hq hf; go_wp2_with (go_at_call 15; refine (same.ints_eq rfl (hf.get 1 rfl rfl) (hf.get 0 rfl rfl)).mono ?_; rintro e w'' ⟨rfl, hb⟩); refine ⟨hq.trans (hb.mono hq.size), hb, ?_, rfl⟩; (show rel.slot _ _ = _; simp only [rel.slot_lit, List.getD_cons_succ, List.getD_cons_zero]; (first | done | exact rfl)))); (simp only [rel.put_lit, List.set_cons_succ, List.set_cons_zero]))
      (apply rel.walk_val; (focus (intro wq hq hf; go_wp2; refine ⟨hq, Below.refl _ _, ?_, rfl⟩; (show rel.slot _ _ = _; simp only [rel.slot_lit, List.getD_cons_succ, List.getD_cons_zero]; (first | done | exact rfl)))); (simp only [rel.put_lit, List.set_cons_succ, List.set_cons_zero]))
      refine rel.walk_nil ?_
      intro Wz3 K9 hF
      clear hF
      replace hAa := hAa.on K9
      replace hAb := hAb.on K9
      replace hAc := hAc.on K9
      replace hAd := hAd.on K9
      replace hAe := hAe.on K9
      replace hSa := hSa.on K9
      replace hSb := hSb.on K9
      replace hSc := hSc.on K9
      replace hSd := hSd.on K9
      replace hSe := hSe.on K9
      replace hB := st hB K9
      clear K9
      have la := hAa.lt
      have lb := hAb.lt
      have lc := hAc.lt
      have ld := hAd.lt
      have le := hAe.lt
      obtain ⟨ca, sa⟩ := hAa.cells2
      obtain ⟨cb, sb⟩ := hAb.cells2
      have cc := hAc.cell 0; simp only [List.getElem?_cons_zero] at cc
      obtain ⟨cd, sd⟩ := hAd.cells2
      obtain ⟨ce, se⟩ := hAe.cells2
      go_wp2_with (first
        | (go_at_call 36; (with_reducible refine (has_avl hSa eb).mono ?_); rintro e w2 ⟨rfl, hb⟩; replace hAa := hAa.on hb; replace hSa := hSa.on hb; replace hAb := hAb.on hb; replace hSb := hSb.on hb; replace hAc := hAc.on hb; replace hSc := hSc.on hb; replace hAd := hAd.on hb; replace hSd := hSd.on hb; replace hAe := hAe.on hb; replace hSe := hSe.on hb; replace hB := st hB hb; clear hb la ca sa lb cb sb lc cc ld cd sd le ce se; have la := hAa.lt; (obtain ⟨ca, sa⟩ := hAa.cells2); have lb := hAb.lt; (obtain ⟨cb, sb⟩ := hAb.cells2); have lc := hAc.lt; (have cc := hAc.cell 0; simp only [List.getElem?_cons_zero] at cc); have ld := hAd.lt; (obtain ⟨cd, sd⟩ := hAd.cells2); have le := hAe.lt; (obtain ⟨ce, se⟩ := hAe.cells2))
        | (go_at_call 37; (with_reducible refine (has_red hSb eb).mono ?_); rintro e w2 ⟨rfl, hb⟩; replace hAa := hAa.on hb; replace hSa := hSa.on hb; replace hAb := hAb.on hb; replace hSb := hSb.on hb; replace hAc := hAc.on hb; replace hSc := hSc.on hb; replace hAd := hAd.on hb; replace hSd := hSd.on hb; replace hAe := hAe.on hb; replace hSe := hSe.on hb; replace hB := st hB hb; clear hb la ca sa lb cb sb lc cc ld cd sd le ce se; have la := hAa.lt; (obtain ⟨ca, sa⟩ := hAa.cells2); have lb := hAb.lt; (obtain ⟨cb, sb⟩ := hAb.cells2); have lc := hAc.lt; (have cc := hAc.cell 0; simp only [List.getElem?_cons_zero] at cc); have ld := hAd.lt; (obtain ⟨cd, sd⟩ := hAd.cells2); have le := hAe.lt; (obtain ⟨ce, se⟩ := hAe.cells2))
        | (go_at_call 38; (with_reducible refine (has_wbt hSc eb).mono ?_); rintro e w2 ⟨rfl, hb⟩; replace hAa := hAa.on hb; replace hSa := hSa.on hb; replace hAb := hAb.on hb; replace hSb := hSb.on hb; replace hAc := hAc.on hb; replace hSc := hSc.on hb; replace hAd := hAd.on hb; replace hSd := hSd.on hb; replace hAe := hAe.on hb; replace hSe := hSe.on hb; replace hB := st hB hb; clear hb la ca sa lb cb sb lc cc ld cd sd le ce se; have la := hAa.lt; (obtain ⟨ca, sa⟩ := hAa.cells2); have lb := hAb.lt; (obtain ⟨cb, sb⟩ := hAb.cells2); have lc := hAc.lt; (have cc := hAc.cell 0; simp only [List.getElem?_cons_zero] at cc); have ld := hAd.lt; (obtain ⟨cd, sd⟩ := hAd.cells2); have le := hAe.lt; (obtain ⟨ce, se⟩ := hAe.cells2))
        | (go_at_call 39; (with_reducible refine (has_trp hSd eb).mono ?_); rintro e w2 ⟨rfl, hb⟩; replace hAa := hAa.on hb; replace hSa := hSa.on hb; replace hAb := hAb.on hb; replace hSb := hSb.on hb; replace hAc := hAc.on hb; replace hSc := hSc.on hb; replace hAd := hAd.on hb; replace hSd := hSd.on hb; replace hAe := hAe.on hb; replace hSe := hSe.on hb; replace hB := st hB hb; clear hb la ca sa lb cb sb lc cc ld cd sd le ce se; have la := hAa.lt; (obtain ⟨ca, sa⟩ := hAa.cells2); have lb := hAb.lt; (obtain ⟨cb, sb⟩ := hAb.cells2); have lc := hAc.lt; (have cc := hAc.cell 0; simp only [List.getElem?_cons_zero] at cc); have ld := hAd.lt; (obtain ⟨cd, sd⟩ := hAd.cells2); have le := hAe.lt; (obtain ⟨ce, se⟩ := hAe.cells2))
        | (go_at_call 18; (with_reducible refine (has_spl hSe eb).mono ?_); rintro e w2 ⟨rfl, hb⟩; replace hAa := hAa.on hb; replace hSa := hSa.on hb; replace hAb := hAb.on hb; replace hSb := hSb.on hb; replace hAc := hAc.on hb; replace hSc := hSc.on hb; replace hAd := hAd.on hb; replace hSd := hSd.on hb; replace hAe := hAe.on hb; replace hSe := hSe.on hb; replace hB := st hB hb; clear hb la ca sa lb cb sb lc cc ld cd sd le ce se; have la := hAa.lt; (obtain ⟨ca, sa⟩ := hAa.cells2); have lb := hAb.lt; (obtain ⟨cb, sb⟩ := hAb.cells2); have lc := hAc.lt; (have cc := hAc.cell 0; simp only [List.getElem?_cons_zero] at cc); have ld := hAd.lt; (obtain ⟨cd, sd⟩ := hAd.cells2); have le := hAe.lt; (obtain ⟨ce, se⟩ := hAe.cells2))
        | (go_at_call 28; (with_reducible refine (put_avl hP hSa hx hlM2.out).mono ?_); rintro e w3 ⟨⟨q3, rfl, hTa⟩, hb⟩; replace hAa := hAa.on hb; replace hSa := hSa.on hb; replace hAb := hAb.on hb; replace hSb := hSb.on hb; replace hAc := hAc.on hb; replace hSc := hSc.on hb; replace hAd := hAd.on hb; replace hSd := hSd.on hb; replace hAe := hAe.on hb; replace hSe := hSe.on hb; replace hB := st hB hb; clear hb la ca sa lb cb sb lc cc ld cd sd le ce se; have la := hAa.lt; (obtain ⟨ca, sa⟩ := hAa.cells2); have lb := hAb.lt; (obtain ⟨cb, sb⟩ := hAb.cells2); have lc := hAc.lt; (have cc := hAc.cell 0; simp only [List.getElem?_cons_zero] at cc); have ld := hAd.lt; (obtain ⟨cd, sd⟩ := hAd.cells2); have le := hAe.lt; (obtain ⟨ce, se⟩ := hAe.cells2))
        | (go_at_call 36; (with_reducible refine (has_avl hTa eP).mono ?_); rintro e w4 ⟨rfl, hb⟩; clear hTa; replace hAa := hAa.on hb; replace hSa := hSa.on hb; replace hAb := hAb.on hb; replace hSb := hSb.on hb; replace hAc := hAc.on hb; replace hSc := hSc.on hb; replace hAd := hAd.on hb; replace hSd := hSd.on hb; replace hAe := hAe.on hb; replace hSe := hSe.on hb; replace hB := st hB hb; clear hb la ca sa lb cb sb lc cc ld cd sd le ce se; have la := hAa.lt; (obtain ⟨ca, sa⟩ := hAa.cells2); have lb := hAb.lt; (obtain ⟨cb, sb⟩ := hAb.cells2); have lc := hAc.lt; (have cc := hAc.cell 0; simp only [List.getElem?_cons_zero] at cc); have ld := hAd.lt; (obtain ⟨cd, sd⟩ := hAd.cells2); have le := hAe.lt; (obtain ⟨ce, se⟩ := hAe.cells2))
        | (go_at_call 12; (with_reducible refine (put_spl hP hSe hx hlM2.out).mono ?_); rintro e w3 ⟨⟨q3, rfl, hTe⟩, hb⟩; replace hAa := hAa.on hb; replace hSa := hSa.on hb; replace hAb := hAb.on hb; replace hSb := hSb.on hb; replace hAc := hAc.on hb; replace hSc := hSc.on hb; replace hAd := hAd.on hb; replace hSd := hSd.on hb; replace hAe := hAe.on hb; replace hSe := hSe.on hb; replace hB := st hB hb; clear hb la ca sa lb cb sb lc cc ld cd sd le ce se; have la := hAa.lt; (obtain ⟨ca, sa⟩ := hAa.cells2); have lb := hAb.lt; (obtain ⟨cb, sb⟩ := hAb.cells2); have lc := hAc.lt; (have cc := hAc.cell 0; simp only [List.getElem?_cons_zero] at cc); have ld := hAd.lt; (obtain ⟨cd, sd⟩ := hAd.cells2); have le := hAe.lt; (obtain ⟨ce, se⟩ := hAe.cells2))
        | (go_at_call 18; (with_reducible refine (has_spl hTe eP).mono ?_); rintro e w4 ⟨rfl, hb⟩; clear hTe; replace hAa := hAa.on hb; replace hSa := hSa.on hb; replace hAb := hAb.on hb; replace hSb := hSb.on hb; replace hAc := hAc.on hb; replace hSc := hSc.on hb; replace hAd := hAd.on hb; replace hSd := hSd.on hb; replace hAe := hAe.on hb; replace hSe := hSe.on hb; replace hB := st hB hb; clear hb la ca sa lb cb sb lc cc ld cd sd le ce se; have la := hAa.lt; (obtain ⟨ca, sa⟩ := hAa.cells2); have lb := hAb.lt; (obtain ⟨cb, sb⟩ := hAb.cells2); have lc := hAc.lt; (have cc := hAc.cell 0; simp only [List.getElem?_cons_zero] at cc); have ld := hAd.lt; (obtain ⟨cd, sd⟩ := hAd.cells2); have le := hAe.lt; (obtain ⟨ce, se⟩ := hAe.cells2)))
      go_ret
      exact ⟨rfl, hB⟩
end Go.Proofs.Ytlaflhnnddfkkaa.topSets
