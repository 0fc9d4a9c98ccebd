/- Package left: a tree of a number and two trees; two trees are joined. -/
import Derived.Test.YtfaahopabcconaaLef
namespace Go.Proofs.Ytfaahopabcconaa.lef
open Go Go.RowKit

set_option maxHeartbeats 8000000 in
theorem over_any {x : Int} {a b : Tr} {p q : Option Addr} {w : World} (ha : Nod w.heap.size w a p) (hb : Nod w.heap.size w b q) (ia : Ok a) (ib : Ok b) (hx : ∀ y ∈ nums a ++ nums b, x ≤ y) (hs : (nums a).length + (nums b).length < 4611686018427387903) :
    Calls Try.prog 21 #[.int .i64 x, .pointer p, .pointer q] w fun e w' => (∃ u, e = .returned u ∧ IsTr w' u (x :: (nums a ++ nums b))) ∧ Below w.heap.size w w' := by
  have s1 := ia.small (by omega)
  have s2 := ib.small (by omega)
  have l1 : ∀ W, Below w.heap.size w W → Calls Try.prog 27 #[.pointer p] W fun e w' => e = .returned (.int .i64 (spine a : Int)) ∧ Below W.heap.size W w' := fun W hW => length_any (ha.grow hW hW.size)
  have l2 : ∀ W, Below w.heap.size w W → Calls Try.prog 27 #[.pointer q] W fun e w' => e = .returned (.int .i64 (spine b : Int)) ∧ Below W.heap.size W w' := fun W hW => length_any (hb.grow hW hW.size)
  have hdone : Hid (∀ (W : World) (G : Nat) (c d : Option Addr) (sp : Int) , Below w.heap.size w W → hp.Blk W G tyT [.int .i64 x, .int .i64 sp, .pointer c, .pointer d] → (∃ l r, ovr x a b = .node x l r ∧ sp = ((spine r + 1 : Nat) : Int) ∧ Nod w.heap.size w l c ∧ Nod w.heap.size w r d) → IsTr W (.pointer (some ⟨G, 0, none⟩)) (x :: (nums a ++ nums b))) := by
    rintro W G c d sp hW hG ⟨l, r, ho, rfl, hl, hr⟩
    refine ⟨_, .node x l r, rfl, ⟨G, c, d, rfl, hG.lt, hG, hl.grow hW hW.size, hr.grow hW hW.size⟩, ?_, ?_⟩
    · rw [← ho]; exact ovr_ok ia ib hx
    · rw [← ho]; exact ovr_nums x a b
  have hov : Hid ((spine a < spine b → ovr x a b = .node x b a) ∧ (¬ spine a < spine b → ovr x a b = .node x a b)) := Lib.hid ⟨fun h => if_pos h, fun h => if_neg h⟩
  have ha' := Lib.hid ha
  have hb' := Lib.hid hb
  have K := Below.refl w.heap.size w
  obtain ⟨ka, hka⟩ : ∃ n, spine a = n := ⟨_, rfl⟩
  obtain ⟨kb, hkb⟩ : ∃ n, spine b = n := ⟨_, rfl⟩
  rw [hka] at l1 s1 hov
  rw [hkb] at l2 s2 hov
  replace hka := Lib.hid hka
  replace hkb := Lib.hid hkb
  clear ia ib hx hs ha hb
  by_cases hlt : ka < kb
  · have ho := Lib.hid (hov.out.1 hlt)
    clear hov
    go_enter Try.func21, Try.ntmps21
    go_wp2_with (first
      | (go_at_call 27; with_reducible refine (l1 _ K).mono ?_; clear l1; rintro e w1 ⟨rfl, hb1⟩; replace K := K.trans (hb1.mono K.size); clear hb1; have l3 := fun W (hW : Below w.heap.size w W) => length_any (ha'.out.grow hW hW.size))
      | (go_at_call 27; with_reducible refine (l2 _ K).mono ?_; clear l2; rintro e w1 ⟨rfl, hb1⟩; replace K := K.trans (hb1.mono K.size); clear hb1)
      | (go_at_call 27; with_reducible refine (l3 _ K).mono ?_; clear l3; rintro e w1 ⟨rfl, hb1⟩; replace K := K.trans (hb1.mono K.size); clear hb1))
    go_ret
    rw [wrap_small (n := (spine a : Int) + 1) (by omega) (by have := hka.out; omega)]
    have hb0 := K.alloc K.size (.cells #[.int .i64 x, .int .i64 ((spine a : Int) + 1), .pointer q, .pointer p] tyT)
    exact ⟨⟨_, rfl, hdone.out _ _ _ _ _ hb0 (hp.Blk.newAt (cs := [.int .i64 x, .int .i64 ((spine a : Int) + 1), .pointer q, .pointer p]) rfl) ⟨b, a, ho.out, by omega, hb'.out, ha'.out⟩⟩, hb0⟩
  · have ho := Lib.hid (hov.out.2 hlt)
    clear hov
    have hlt2 : ¬ ((ka : Int) < (kb : Int)) := by omega
    clear hlt
    go_enter Try.func21, Try.ntmps21
    go_wp2_with (first
      | (go_at_call 27; with_reducible refine (l1 _ K).mono ?_; clear l1; rintro e w1 ⟨rfl, hb1⟩; replace K := K.trans (hb1.mono K.size); clear hb1; have l3 := fun W (hW : Below w.heap.size w W) => length_any (hb'.out.grow hW hW.size))
      | (go_at_call 27; with_reducible refine (l2 _ K).mono ?_; clear l2; rintro e w1 ⟨rfl, hb1⟩; replace K := K.trans (hb1.mono K.size); clear hb1)
      | (go_at_call 27; with_reducible refine (l3 _ K).mono ?_; clear l3; rintro e w1 ⟨rfl, hb1⟩; replace K := K.trans (hb1.mono K.size); clear hb1))
    go_ret
    rw [wrap_small (n := (spine b : Int) + 1) (by omega) (by have := hkb.out; omega)]
    have hb0 := K.alloc K.size (.cells #[.int .i64 x, .int .i64 ((spine b : Int) + 1), .pointer p, .pointer q] tyT)
    exact ⟨⟨_, rfl, hdone.out _ _ _ _ _ hb0 (hp.Blk.newAt (cs := [.int .i64 x, .int .i64 ((spine b : Int) + 1), .pointer p, .pointer q]) rfl) ⟨a, b, ho.out, by omega, ha'.out, hb'.out⟩⟩, hb0⟩

theorem over_to {x : Int} {a : Tr} {p q : Option Addr} {L : List Int} {w : World} (ha : Nod w.heap.size w a p) (hb : IsTr w (.pointer q) L) (ia : Ok a) (hx : ∀ y ∈ nums a ++ L, x ≤ y) (hs : (nums a).length + L.length < 4611686018427387903) :
    Calls Try.prog 21 #[.int .i64 x, .pointer p, .pointer q] w fun e w' => (∃ u, e = .returned u ∧ IsTr w' u (x :: (nums a ++ L))) ∧ Below w.heap.size w w' := by
  obtain ⟨_, b, hu, hn, ib, hl⟩ := hb
  cases hu
  exact (over_any ha hn ia ib (fun y hy => hx y (by rw [List.mem_append] at hy ⊢; rwa [hl.mem_iff] at hy)) (by rw [hl.length_eq]; exact hs)).mono fun _ _ ⟨⟨u, he, h⟩, hb⟩ => ⟨⟨u, he, h.perm (List.Perm.cons x (hl.append_left _))⟩, hb⟩

set_option maxHeartbeats 8000000 in
theorem join_any : ∀ (n : Nat) (r s : Tr) (p q : Option Addr) (w : World), spine r + spine s ≤ n → Nod w.heap.size w r p → Nod w.heap.size w s q → Ok r → Ok s → (nums r).length + (nums s).length < 4611686018427387903 →
    Calls Try.prog 20 #[.pointer p, .pointer q] w fun e w' => (∃ u, e = .returned u ∧ IsTr w' u (nums r ++ nums s)) ∧ Below w.heap.size w w' := by
  intro N
  induction N with
  | zero =>
    rintro r s p q w hN hr hs ir is -
    rcases r with _ | ⟨x, a, b⟩
    · have hs' := hs
      obtain rfl : p = none := hr
      have hd : IsTr w (.pointer q) (nums .nil ++ nums s) := ⟨q, s, rfl, hs, is, List.Perm.refl _⟩
      go_enter Try.func20, Try.ntmps20
      go_wp2_with fail
      go_ret
      exact ⟨⟨_, rfl, hd⟩, Below.refl _ _⟩
    · simp [spine] at hN
  | succ N ih =>
    intro r s p q w hN hr hs ir is hsz
    rcases r with _ | ⟨x, a, b⟩
    · obtain rfl : p = none := hr
      have hd : IsTr w (.pointer q) (nums .nil ++ nums s) := ⟨q, s, rfl, hs, is, List.Perm.refl _⟩
      clear ih hN hs
      go_enter Try.func20, Try.ntmps20
      go_wp2_with fail
      go_ret
      exact ⟨⟨_, rfl, hd⟩, Below.refl _ _⟩
    rcases s with _ | ⟨y, c, d⟩
    · obtain rfl : q = none := hs
      have hd : IsTr w (.pointer p) (nums (.node x a b) ++ nums .nil) := ⟨p, _, rfl, hr, ir, by rw [show nums Tr.nil = [] from rfl, List.append_nil]⟩
      obtain ⟨g, c1, c2, rfl, hg, hv, hb, hn⟩ := hr
      clear ih hN hsz ir is hv hb hn
      go_enter Try.func20, Try.ntmps20
      go_wp2_with fail
      go_ret
      exact ⟨⟨_, rfl, hd⟩, Below.refl _ _⟩
    have hr0 := hr
    have hs0 := hs
    obtain ⟨g, pa, pb, rfl, hg, hv, ha, hb⟩ := hr
    obtain ⟨g', pc, pd, rfl, hg', hv', hc, hd⟩ := hs
    have c0 := hv.cell 0
    have c2 := hv.cell 2
    have c3 := hv.cell 3
    have d0 := hv'.cell 0
    have d2 := hv'.cell 2
    have d3 := hv'.cell 3
    simp only [List.getElem?_cons_zero, List.getElem?_cons_succ] at c0 c2 c3 d0 d2 d3
    have nx : nums (.node x a b) = x :: (nums a ++ nums b) := rfl
    have ny : nums (.node y c d) = y :: (nums c ++ nums d) := rfl
    simp only [spine] at hN
    have hsz2 := hsz
    rw [nx, ny] at hsz2
    simp only [List.length_append, List.length_cons] at hsz2
    clear hv hv'
    by_cases hlt : y < x
    · have hcl := fun W (hW : Below w.heap.size w W) => ih d (.node x a b) pd _ W (by simp only [spine]; omega) (hd.grow hW hW.size) (hr0.grow hW hW.size) is.2.2.2 ir (by rw [nx]; simp only [List.length_append, List.length_cons]; omega)
      have hle : ∀ z ∈ nums c ++ (nums d ++ nums (.node x a b)), y ≤ z := fun z hz => by
        rcases List.mem_append.1 hz with hz | hz
        · exact is.1 z (List.mem_append.2 (.inl hz))
        rcases List.mem_append.1 hz with hz | hz
        · exact is.1 z (List.mem_append.2 (.inr hz))
        · have := ir.top z hz; omega
      have hov := fun W u (hW : Below w.heap.size w W) (hu : IsTr W (.pointer u) (nums d ++ nums (.node x a b))) => over_to (hc.grow hW hW.size) hu is.2.2.1 hle (by rw [nx]; simp only [List.length_append, List.length_cons]; omega)
      have hdone : Hid (∀ W u, IsTr W u (y :: (nums c ++ (nums d ++ nums (.node x a b)))) → IsTr W u (nums (.node x a b) ++ nums (.node y c d))) := Lib.hid fun W u h => h.perm (by
        refine List.Perm.trans ?_ List.perm_append_comm
        rw [ny]
        simp)
      obtain ⟨L, hL⟩ : ∃ L, nums d ++ nums (.node x a b) = L := ⟨_, rfl⟩
      obtain ⟨M, hM⟩ : ∃ M, y :: (nums c ++ (nums d ++ nums (.node x a b))) = M := ⟨_, rfl⟩
      obtain ⟨R, hR⟩ : ∃ R, nums (.node x a b) ++ nums (.node y c d) = R := ⟨_, rfl⟩
      rw [hL] at hcl hM
      rw [hL, hM] at hov
      rw [hL, hM, hR] at hdone
      rw [hR]
      clear ih hr0 hs0 hN hsz hsz2 nx ny ha hb hc hd ir is hle hL hM hR
      go_enter Try.func20, Try.ntmps20
      go_wp2_with fail
      go_big_region
      go_wp2_with fail
      apply rel.region_tail (C := fun w' => Below w.heap.size w w') (X := fun w w' => Below w.heap.size w w') 15 (by kernel_rfl) (by kernel_rfl) (by kernel_rfl) (by kernel_rfl) ((Below.refl _ _).drew.drew)
      (apply rel.walk_val; (focus (intro wq hq hf; go_wp2; refine ⟨hq, Below.refl _ _, ?_, rfl⟩; (show rel.slot _ _ = _; simp only [rel.slot_lit, List.getD_cons_succ, List.getD_cons_zero]; (first | done | exact rfl)))); (simp only [rel.put_lit, List.set_cons_succ, List.set_cons_zero]))
      (apply rel.walk_val; (focus (intro wq hq hf; go_wp2; refine ⟨hq, Below.refl _ _, ?_, rfl⟩; (show rel.slot _ _ = _; simp only [rel.slot_lit, List.getD_cons_succ, List.getD_cons_zero]; (first | done | exact rfl)))); (simp only [rel.put_lit, List.set_cons_succ, List.set_cons_zero]))
      (apply rel.walk_val; (focus (intro wq hq hf; go_wp2; refine ⟨hq, Below.refl _ _, ?_, rfl⟩; (show rel.slot _ _ = _; simp only [rel.slot_lit, List.getD_cons_succ, List.getD_cons_zero]; (first | done | exact rfl)))); (simp only [rel.put_lit, List.set_cons_succ, List.set_cons_zero]))
      ((apply rel.walk_val; (focus (intro wq hq hf; (have d0 := (hq.cell (p := ⟨g', 0, none⟩) hg').trans d0); go_wp2; refine ⟨hq, Below.refl _ _, ?_, rfl⟩; (show rel.slot _ _ = _; simp only [rel.slot_lit, List.getD_cons_succ, List.getD_cons_zero]; (first | done | exact rfl)))); (simp only [rel.put_lit, List.set_cons_succ, List.set_cons_zero])))
      (apply rel.walk_val; (focus (intro wq hq hf; go_wp2; refine ⟨hq, Below.refl _ _, ?_, rfl⟩; (show rel.slot _ _ = _; simp only [rel.slot_lit, List.getD_cons_succ, List.getD_cons_zero]; (first | done | exact rfl)))); (simp only [rel.put_lit, List.set_cons_succ, List.set_cons_zero]))
      (apply rel.walk_val; (focus (intro wq hq hf; go_wp2; refine ⟨hq, Below.refl _ _, ?_, rfl⟩; (show rel.slot _ _ = _; simp only [rel.slot_lit, List.getD_cons_succ, List.getD_cons_zero]; (first | done | exact rfl)))); (simp only [rel.put_lit, List.set_cons_succ, List.set_cons_zero]))
      (apply rel.walk_val; (focus (intro wq hq hf; go_wp2; refine ⟨hq, Below.refl _ _, ?_, rfl⟩; (show rel.slot _ _ = _; simp only [rel.slot_lit, List.getD_cons_succ, List.getD_cons_zero]; (first | done | exact rfl)))); (simp only [rel.put_lit, List.set_cons_succ, List.set_cons_zero]))
      ((apply rel.walk_val; (focus (intro wq hq hf; (have d0 := (hq.cell (p := ⟨g', 2, none⟩) hg').trans d2); go_wp2; refine ⟨hq, Below.refl _ _, ?_, rfl⟩; (show rel.slot _ _ = _; simp only [rel.slot_lit, List.getD_cons_succ, List.getD_cons_zero]; (first | done | exact rfl)))); (simp only [rel.put_lit, List.set_cons_succ, List.set_cons_zero])))
      (apply rel.walk_val; (focus (intro wq hq hf; go_wp2; refine ⟨hq, Below.refl _ _, ?_, rfl⟩; (show rel.slot _ _ = _; simp only [rel.slot_lit, List.getD_cons_succ, List.getD_cons_zero]; (first | done | exact rfl)))); (simp only [rel.put_lit, List.set_cons_succ, List.set_cons_zero]))
      (apply rel.walk_val; (focus (intro wq hq hf; go_wp2; refine ⟨hq, Below.refl _ _, ?_, rfl⟩; (show rel.slot _ _ = _; simp only [rel.slot_lit, List.getD_cons_succ, List.getD_cons_zero]; (first | done | exact rfl)))); (simp only [rel.put_lit, List.set_cons_succ, List.set_cons_zero]))
      (apply rel.walk_val; (focus (intro wq hq hf; go_wp2; refine ⟨hq, Below.refl _ _, ?_, rfl⟩; (show rel.slot _ _ = _; simp only [rel.slot_lit, List.getD_cons_succ, List.getD_cons_zero]; (first | done | exact rfl)))); (simp only [rel.put_lit, List.set_cons_succ, List.set_cons_zero]))
      ((apply rel.walk_val; (focus (intro wq hq hf; (have d0 := (hq.cell (p := ⟨g', 3, none⟩) hg').trans d3); go_wp2; refine ⟨hq, Below.refl _ _, ?_, rfl⟩; (show rel.slot _ _ = _; simp only [rel.slot_lit, List.getD_cons_succ, List.getD_cons_zero]; (first | done | exact rfl)))); (simp only [rel.put_lit, List.set_cons_succ, List.set_cons_zero])))
      (apply rel.walk_val; (focus (intro wq hq hf; go_wp2; refine ⟨hq, Below.refl _ _, ?_, rfl⟩; (show rel.slot _ _ = _; simp only [rel.slot_lit, List.getD_cons_succ, List.getD_cons_zero]; (first | done | exact rfl)))); (simp only [rel.put_lit, List.set_cons_succ, List.set_cons_zero]))
      (apply rel.walk_rel (fun u w' => lef.IsTr w' u (L)) ⟨_, rfl⟩ (fun u w1 w2 h1 h2 => h2.on h1); (focus (intro wq hq hf; go_wp2_with (go_at_call 20; with_reducible refine (hcl _ hq).mono ?_; rintro e w'' ⟨⟨u, rfl, hu⟩, hb⟩); refine ⟨hq.trans (hb.mono hq.size), hb, ?_, rfl⟩; (show lef.IsTr _ (rel.slot _ _) _; simp only [rel.slot_lit, List.getD_cons_succ, List.getD_cons_zero]; exact hu))); (intro u wu _ hu; obtain ⟨pu, t_pu, rfl, -⟩ := hu; (simp only [rel.put_lit, List.set_cons_succ, List.set_cons_zero])))
      (apply rel.walk_rel (fun u w' => lef.IsTr w' u (M)) ⟨_, rfl⟩ (fun u w1 w2 h1 h2 => h2.on h1); (focus (intro wq hq hf; go_wp2_with (go_at_call 21; with_reducible refine (hov _ _ hq (hf.get 0 rfl rfl)).mono ?_; rintro e w'' ⟨⟨u, rfl, hu⟩, hb⟩); refine ⟨hq.trans (hb.mono hq.size), hb, ?_, rfl⟩; (show lef.IsTr _ (rel.slot _ _) _; simp only [rel.slot_lit, List.getD_cons_succ, List.getD_cons_zero]; exact hu))); (intro u wu _ hu; obtain ⟨pz, t_pz, rfl, -⟩ := hu; (simp only [rel.put_lit, List.set_cons_succ, List.set_cons_zero])))
      refine rel.walk_nil ?_
      intro w9 K9 hF
      have hu : IsTr w9 (.pointer pz) M := hF _ (List.mem_cons_self ..)
      clear hF
      simp only [List.drop_succ_cons, List.drop_zero]
      go_wp2
      go_ret
      exact ⟨⟨_, rfl, hdone.out _ _ hu⟩, K9⟩
    · have hcl := fun W (hW : Below w.heap.size w W) => ih b (.node y c d) pb _ W (by simp only [spine]; omega) (hb.grow hW hW.size) (hs0.grow hW hW.size) ir.2.2.2 is (by rw [ny]; simp only [List.length_append, List.length_cons]; omega)
      have hle : ∀ z ∈ nums a ++ (nums b ++ nums (.node y c d)), x ≤ z := fun z hz => by
        rcases List.mem_append.1 hz with hz | hz
        · exact ir.1 z (List.mem_append.2 (.inl hz))
        rcases List.mem_append.1 hz with hz | hz
        · exact ir.1 z (List.mem_append.2 (.inr hz))
        · have := is.top z hz; omega
      have hov := fun W u (hW : Below w.heap.size w W) (hu : IsTr W (.pointer u) (nums b ++ nums (.node y c d))) => over_to (ha.grow hW hW.size) hu ir.2.2.1 hle (by rw [ny]; simp only [List.length_append, List.length_cons]; omega)
      have hdone : Hid (∀ W u, IsTr W u (x :: (nums a ++ (nums b ++ nums (.node y c d)))) → IsTr W u (nums (.node x a b) ++ nums (.node y c d))) := Lib.hid fun W u h => h.perm (by
        rw [nx]
        simp)
      obtain ⟨L, hL⟩ : ∃ L, nums b ++ nums (.node y c d) = L := ⟨_, rfl⟩
      obtain ⟨M, hM⟩ : ∃ M, x :: (nums a ++ (nums b ++ nums (.node y c d))) = M := ⟨_, rfl⟩
      obtain ⟨R, hR⟩ : ∃ R, nums (.node x a b) ++ nums (.node y c d) = R := ⟨_, rfl⟩
      rw [hL] at hcl hM
      rw [hL, hM] at hov
      rw [hL, hM, hR] at hdone
      rw [hR]
      clear ih hr0 hs0 hN hsz hsz2 nx ny ha hb hc hd ir is hle hL hM hR
      go_enter Try.func20, Try.ntmps20
      go_wp2_with fail
      have hlt2 : decide (y < x) = false := by simpa using hlt
      go_big_region
      go_wp2_with fail
      apply rel.region_tail (C := fun w' => Below w.heap.size w w') (X := fun w w' => Below w.heap.size w w') 15 (by kernel_rfl) (by kernel_rfl) (by kernel_rfl) (by kernel_rfl) ((Below.refl _ _).drew.drew)
      (apply rel.walk_val; (focus (intro wq hq hf; go_wp2; refine ⟨hq, Below.refl _ _, ?_, rfl⟩; (show rel.slot _ _ = _; simp only [rel.slot_lit, List.getD_cons_succ, List.getD_cons_zero]; (first | done | exact rfl)))); (simp only [rel.put_lit, List.set_cons_succ, List.set_cons_zero]))
      (apply rel.walk_val; (focus (intro wq hq hf; go_wp2; refine ⟨hq, Below.refl _ _, ?_, rfl⟩; (show rel.slot _ _ = _; simp only [rel.slot_lit, List.getD_cons_succ, List.getD_cons_zero]; (first | done | exact rfl)))); (simp only [rel.put_lit, List.set_cons_succ, List.set_cons_zero]))
      (apply rel.walk_val; (focus (intro wq hq hf; go_wp2; refine ⟨hq, Below.refl _ _, ?_, rfl⟩; (show rel.slot _ _ = _; simp only [rel.slot_lit, List.getD_cons_succ, List.getD_cons_zero]; (first | done | exact rfl)))); (simp only [rel.put_lit, List.set_cons_succ, List.set_cons_zero]))
      ((apply rel.walk_val; (focus (intro wq hq hf; (have d0 := (hq.cell (p := ⟨g, 0, none⟩) hg).trans c0); go_wp2; refine ⟨hq, Below.refl _ _, ?_, rfl⟩; (show rel.slot _ _ = _; simp only [rel.slot_lit, List.getD_cons_succ, List.getD_cons_zero]; (first | done | exact rfl)))); (simp only [rel.put_lit, List.set_cons_succ, List.set_cons_zero])))
      (apply rel.walk_val; (focus (intro wq hq hf; go_wp2; refine ⟨hq, Below.refl _ _, ?_, rfl⟩; (show rel.slot _ _ = _; simp only [rel.slot_lit, List.getD_cons_succ, List.getD_cons_zero]; (first | done | exact rfl)))); (simp only [rel.put_lit, List.set_cons_succ, List.set_cons_zero]))
      (apply rel.walk_val; (focus (intro wq hq hf; go_wp2; refine ⟨hq, Below.refl _ _, ?_, rfl⟩; (show rel.slot _ _ = _; simp only [rel.slot_lit, List.getD_cons_succ, List.getD_cons_zero]; (first | done | exact rfl)))); (simp only [rel.put_lit, List.set_cons_succ, List.set_cons_zero]))
      (apply rel.walk_val; (focus (intro wq hq hf; go_wp2; refine ⟨hq, Below.refl _ _, ?_, rfl⟩; (show rel.slot _ _ = _; simp only [rel.slot_lit, List.getD_cons_succ, List.getD_cons_zero]; (first | done | exact rfl)))); (simp only [rel.put_lit, List.set_cons_succ, List.set_cons_zero]))
      ((apply rel.walk_val; (focus (intro wq hq hf; (have d0 := (hq.cell (p := ⟨g, 2, none⟩) hg).trans c2); go_wp2; refine ⟨hq, Below.refl _ _, ?_, rfl⟩; (show rel.slot _ _ = _; simp only [rel.slot_lit, List.getD_cons_succ, List.getD_cons_zero]; (first | done | exact rfl)))); (simp only [rel.put_lit, List.set_cons_succ, List.set_cons_zero])))
      (apply rel.walk_val; (focus (intro wq hq hf; go_wp2; refine ⟨hq, Below.refl _ _, ?_, rfl⟩; (show rel.slot _ _ = _; simp only [rel.slot_lit, List.getD_cons_succ, List.getD_cons_zero]; (first | done | exact rfl)))); (simp only [rel.put_lit, List.set_cons_succ, List.set_cons_zero]))
      (apply rel.walk_val; (focus (intro wq hq hf; go_wp2; refine ⟨hq, Below.refl _ _, ?_, rfl⟩; (show rel.slot _ _ = _; simp only [rel.slot_lit, List.getD_cons_succ, List.getD_cons_zero]; (first | done | exact rfl)))); (simp only [rel.put_lit, List.set_cons_succ, List.set_cons_zero]))
      (apply rel.walk_val; (focus (intro wq hq hf; go_wp2; refine ⟨hq, Below.refl _ _, ?_, rfl⟩; (show rel.slot _ _ = _; simp only [rel.slot_lit, List.getD_cons_succ, List.getD_cons_zero]; (first | done | exact rfl)))); (simp only [rel.put_lit, List.set_cons_succ, List.set_cons_zero]))
      ((apply rel.walk_val; (focus (intro wq hq hf; (have d0 := (hq.cell (p := ⟨g, 3, none⟩) hg).trans c3); go_wp2; refine ⟨hq, Below.refl _ _, ?_, rfl⟩; (show rel.slot _ _ = _; simp only [rel.slot_lit, List.getD_cons_succ, List.getD_cons_zero]; (first | done | exact rfl)))); (simp only [rel.put_lit, List.set_cons_succ, List.set_cons_zero])))
      (apply rel.walk_val; (focus (intro wq hq hf; go_wp2; refine ⟨hq, Below.refl _ _, ?_, rfl⟩; (show rel.slot _ _ = _; simp only [rel.slot_lit, List.getD_cons_succ, List.getD_cons_zero]; (first | done | exact rfl)))); (simp only [rel.put_lit, List.set_cons_succ, List.set_cons_zero]))
      (apply rel.walk_rel (fun u w' => lef.IsTr w' u (L)) ⟨_, rfl⟩ (fun u w1 w2 h1 h2 => h2.on h1); (focus (intro wq hq hf; go_wp2_with (go_at_call 20; with_reducible refine (hcl _ hq).mono ?_; rintro e w'' ⟨⟨u, rfl, hu⟩, hb⟩); refine ⟨hq.trans (hb.mono hq.size), hb, ?_, rfl⟩; (show lef.IsTr _ (rel.slot _ _) _; simp only [rel.slot_lit, List.getD_cons_succ, List.getD_cons_zero]; exact hu))); (intro u wu _ hu; obtain ⟨pu, t_pu, rfl, -⟩ := hu; (simp only [rel.put_lit, List.set_cons_succ, List.set_cons_zero])))
      (apply rel.walk_rel (fun u w' => lef.IsTr w' u (M)) ⟨_, rfl⟩ (fun u w1 w2 h1 h2 => h2.on h1); (focus (intro wq hq hf; go_wp2_with (go_at_call 21; with_reducible refine (hov _ _ hq (hf.get 0 rfl rfl)).mono ?_; rintro e w'' ⟨⟨u, rfl, hu⟩, hb⟩); refine ⟨hq.trans (hb.mono hq.size), hb, ?_, rfl⟩; (show lef.IsTr _ (rel.slot _ _) _; simp only [rel.slot_lit, List.getD_cons_succ, List.getD_cons_zero]; exact hu))); (intro u wu _ hu; obtain ⟨pz, t_pz, rfl, -⟩ := hu; (simp only [rel.put_lit, List.set_cons_succ, List.set_cons_zero])))
      refine rel.walk_nil ?_
      intro w9 K9 hF
      have hu : IsTr w9 (.pointer pz) M := hF _ (List.mem_cons_self ..)
      clear hF
      simp only [List.drop_succ_cons, List.drop_zero]
      go_wp2
      go_ret
      exact ⟨⟨_, rfl, hdone.out _ _ hu⟩, K9⟩
end Go.Proofs.Ytfaahopabcconaa.lef
