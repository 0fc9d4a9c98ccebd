/- Package pair: each (with a stack of its own) and Ints. -/
import Derived.Test.YtnfoadhhgonfkaaParOps
import Derived.Test.YtnfoadhhgonfkaaSame
import Derived.Test.YtnfoadhhgonfkaaSort
import Derived.Maps.AppendAt
import Derived.OwnWalk
import Derived.Deep.LoopGhost
namespace Go.Proofs.Ytnfoadhhgonfkaa.par
open Go Go.RowKit
open Go.Proofs.Ytnfoadhhgonfkaa.bin (srt srt_perm srt_len srt_rises rises_one srt_eq srt_of)

theorem blk_ne {w : World} {g g' : Nat} {t t' : TypeId} {cs cs' : List Value} (h : hp.Blk w g t cs) (h' : hp.Blk w g' t' cs') (ht : t ≠ t') : g ≠ g' := by
  rintro rfl
  unfold hp.Blk at h h'
  rw [h] at h'
  simp at h'
  exact ht h'.2

/-- what has been collected: a row of the call's own, in a box of its own -/
def Coll (w : World) (B N : Nat) (pre : List Int) (W : World) : Prop :=
  Below w.heap.size w W ∧ w.heap.size ≤ B ∧ ∃ g, hp.Blk W B 22 [.slice (some ⟨g, 0, none⟩) pre.length N] ∧ W.ownsRow w.heap.size 3 1 (.slice (some ⟨g, 0, none⟩) pre.length N) pre.length (pre.map (Value.int .i64))

/-- blocks of other kinds stay -/
def Oth (W W' : World) : Prop := ∀ b t cs, t ≠ 3 → t ≠ 22 → hp.Blk W b t cs → hp.Blk W' b t cs

theorem add_coll {w : World} {B N : Nat} {pre : List Int} {W : World} (x : Int) (h : Coll w B N pre W) (hN : pre.length < N) :
    Calls Try.prog 21 #[.int .i64 x, .pointer (some ⟨B, 0, none⟩)] W fun e W' => e = .returned (.tuple #[]) ∧ Coll w B N (pre ++ [x]) W' ∧ Oth W W' := by
  obtain ⟨hb, hB, g, hk, hrow⟩ := h
  obtain ⟨i0, hi, hz0, hz1, hz2⟩ := info_parts same.infoInt
  have hd := hk.cell 0
  simp only [List.getElem?_cons_zero] at hd
  go_enter Try.func21, Try.ntmps21
  go_wp2_with (at_builtin; refine wpList_append_fits _ rfl _ _ 22 rfl w.heap.size 3 i0 1 Try.underlying22 hi hz1 g pre.length N _ rfl (hrow.alloc _) ⟨W.heap.size, 0, none⟩ 1 1 [.int .i64 x] rfl rfl (cell_one_new _ _ _) (by simp [Value.oneCell']) hN ?_; intro w2 hown' hgrow; have hk2 : hp.Blk w2 B 22 [.slice (some ⟨g, 0, none⟩) pre.length N] := hk.grown (by decide) hrow hgrow; have c0 := hk2.cell 0; have cf := hk2.free 0; simp only [List.getElem?_cons_zero] at c0)
  go_end0
  refine ⟨rfl, ⟨((hb.alloc hb.size _).grown hgrow (by have := hb.size; simp; omega) (fun k hk => (hrow.lt k hk).1)).setCell hB _, hB, g, ?_, ?_⟩, ?_⟩
  · rw [List.length_append]
    exact hk2.set 0 _
  · have := hp.row_set (o := 0) hown' hk2 (by decide) (.slice (some ⟨g, 0, none⟩) (pre.length + 1) N)
    simpa using this
  · intro b t cs h1 h2 hbk
    have hb2 : hp.Blk w2 b t cs := hbk.grown h1 hrow hgrow
    exact hb2.other (blk_ne hb2 hk2 h2) _

theorem Coll.kept {w : World} {B N : Nat} {pre : List Int} {W W' : World} (h : Coll w B N pre W) (hb : Below w.heap.size w W') (hk : ∀ b t cs, t ≠ 44 → hp.Blk W b t cs → hp.Blk W' b t cs) : Coll w B N pre W' := by
  obtain ⟨_, hB, g, h1, h2⟩ := h
  refine ⟨hb, hB, g, hk _ _ _ (by decide) h1, ?_⟩
  obtain ⟨g1, g2⟩ := h2
  refine ⟨g1, ?_⟩
  rcases g2 with g2 | ⟨g', cap, cur, hv, hbs, hg, hr⟩
  · exact .inl g2
  · refine .inr ⟨g', cap, cur, hv, hbs, ?_, hr⟩
    have := hk g' 3 cur.toList (by decide) (by unfold hp.Blk; rw [hg])
    unfold hp.Blk at this
    simpa using this

/-- the function value that collects -/
abbrev adder (B : Nat) : Value := .func (.func 21) #[] #[.pointer (some ⟨B, 0, none⟩)]

abbrev tyP : TypeId := 44

theorem row_keep {w w' : World} {base n : Nat} {e : TypeId} {v : Value} {xs : List Value} (h : w.ownsRow base e 1 v n xs) (hk : ∀ g cs, hp.Blk w g e cs → hp.Blk w' g e cs) : w'.ownsRow base e 1 v n xs := by
  obtain ⟨h1, h2⟩ := h
  refine ⟨h1, ?_⟩
  rcases h2 with h2 | ⟨g, cap, cur, hv, hb, hg, hr⟩
  · exact .inl h2
  · refine .inr ⟨g, cap, cur, hv, hb, ?_, hr⟩
    have := hk g cur.toList (by unfold hp.Blk; rw [hg])
    unfold hp.Blk at this
    simpa using this
/-- a row's last cell, and the row without it -/
theorem row_last {W : World} {base : Nat} {e : TypeId} {v x : Value} {xs : List Value} (h : W.ownsRow base e 1 v (xs.length + 1) (xs ++ [x])) :
    ∃ g cap, v = .slice (some ⟨g, 0, none⟩) (xs.length + 1) cap ∧ W.cell? ⟨g, xs.length, none⟩ = some x ∧ xs.length + 1 ≤ cap ∧ W.ownsRow base e 1 (.slice (some ⟨g, 0, none⟩) xs.length cap) xs.length xs := by
  obtain ⟨h1, h2⟩ := h
  rcases h2 with ⟨_, h0⟩ | ⟨g, cap, cur, rfl, hb, hg, hnc, hcm, hcs, htk⟩
  · omega
  · rw [Nat.mul_one] at hcs htk
    refine ⟨g, cap, rfl, ?_, hnc, by simp, .inr ⟨g, cap, cur, rfl, hb, hg, by omega, hcm, by omega, ?_⟩⟩
    · have h3 : (cur.toList.take (xs.length + 1))[xs.length]? = (xs ++ [x])[xs.length]? := by rw [htk]
      rw [List.getElem?_take_of_lt (by omega)] at h3
      simp only [World.cell?, hg]
      simpa using h3
    · have h4 : (cur.toList.take (xs.length + 1)).take xs.length = (xs ++ [x]).take xs.length := by rw [htk]
      rw [List.take_take] at h4
      simpa using h4

/-- what waits: pointers to rows -/
abbrev Wt := List (Option Addr × Rw)
def ptrs (ts : Wt) : List Value := ts.map fun p => .pointer p.1
def flat (ts : Wt) : List Int := ts.flatMap fun p => nums p.2
/-- how many places there are to go to -/
def ends : Wt → Nat
  | [] => 0
  | p :: ts => (nums p.2).length + 1 + ends ts
def turns : Wt → Nat
  | [] => 0
  | p :: ts => 2 * (nums p.2).length + 1 + turns ts
theorem ends_app (ts us : Wt) : ends (ts ++ us) = ends ts + ends us := by
  induction ts with
  | nil => simp [ends]
  | cons p ts ih => simp [ends, ih]; omega
theorem turns_app (ts us : Wt) : turns (ts ++ us) = turns ts + turns us := by
  induction ts with
  | nil => simp [turns]
  | cons p ts ih => simp [turns, ih]; omega
theorem ends_len (ts : Wt) : ts.length ≤ ends ts := by
  induction ts with
  | nil => simp [ends]
  | cons p ts ih => simp [ends]; omega
theorem flat_app (ts us : Wt) : flat (ts ++ us) = flat ts ++ flat us := by simp [flat]
theorem ptrs_app (ts us : Wt) : ptrs (ts ++ us) = ptrs ts ++ ptrs us := by simp [ptrs]
theorem ptrs_len (ts : Wt) : (ptrs ts).length = ts.length := by simp [ptrs]

theorem infoPtr : (Try.prog.info? tyP).map (fun i => (i.zero, i.size, i.bytes)) = some (some (.pointer none), 1, 8) := by kernel_rfl

theorem cell_two {w : World} {g : Nat} {x y : Value} {t : TypeId} (hk : hp.Blk w g t [x, y]) : ∀ j u, [x, y][j]? = some u → w.cell? ((⟨g, 0, none⟩ : Addr).add j) = some u := by
  intro j u hj
  match j, hj with
  | 0, hj =>
    have := hk.cell 0
    simpa [Addr.add] using this.trans hj
  | 1, hj =>
    have := hk.cell 1
    simpa [Addr.add] using this.trans hj

theorem Oth.keep {W W' : World} (h : Oth W W') : Keep W W' := fun b t cs ht hk => by
  rcases ht with rfl | rfl
  · exact h _ _ _ (by decide) (by decide) hk
  · exact h _ _ _ (by decide) (by decide) hk

set_option maxHeartbeats 8000000 in
theorem each_any {w : World} {B N : Nat} {t : Tr} {p : Option Addr} {W : World} (hr : Tre w.heap.size w t p) (hN : (tnums t).length ≤ N) (hS : (tnums t).length ≤ 17592186044400) (hC : Coll w B N [] W) :
    Calls Try.prog 20 #[.pointer p, adder B] W fun e W' => e = .returned (.tuple #[]) ∧ ∃ l, l.Perm (tnums t) ∧ Coll w B N l W' := by
  rcases t with _ | ⟨x0, b0⟩
  · obtain rfl : p = none := hr
    go_enter Try.func20, Try.ntmps20
    go_wp2_with fail
    (try simp only [Exit.inBlock, Exit.then])
    refine bodyPost_ret (results_none rfl _ _ _) rfl ?_
    exact ⟨rfl, [], List.Perm.refl _, hC⟩
  obtain ⟨i0, hi, hz0, hz1, hz2⟩ := info_parts infoPtr
  have hbW := hC.1.size
  have hb1 : Below W.heap.size W (W.alloc (.cells #[.pointer p, .pointer none] tyR)) := (Below.refl _ _).alloc (Nat.le_refl _) _
  have hr1 : Row (W.heap.size + 1) (W.alloc (.cells #[.pointer p, .pointer none] tyR)) (.cons x0 b0 .nil) (some ⟨W.heap.size, 0, none⟩) := by
    have h1 : Row (W.alloc (.cells #[.pointer p, .pointer none] tyR)).heap.size (W.alloc (.cells #[.pointer p, .pointer none] tyR)) (.cons x0 b0 .nil) (some ⟨W.heap.size, 0, none⟩) := Row.mk (hp.Blk.new W [.pointer p, .pointer none] tyR) ((hr.grow hC.1 hC.1.size).on hb1) rfl
    simpa using h1
  have hr2 := hr1.keep (Keep.of_below ((Below.refl _ _).alloc (Nat.le_refl _) (.cells #[.pointer (some ⟨W.heap.size, 0, none⟩)] tyP)))
  obtain ⟨h0, c0, rfl, -⟩ := hr
  clear hr1
  go_enter Try.func20, Try.ntmps20
  go_wp2_with fail
  go_loopg [4] (turns [(some ⟨W.heap.size, 0, none⟩, .cons x0 b0 .nil)]) (fun k v W' => ∃ (pre : List Int) (ts : Wt), k = turns ts ∧ Hid ((pre ++ flat ts).Perm (tnums (some (x0, b0)))) ∧ ends ts ≤ (tnums (some (x0, b0))).length + 1 ∧ Coll w B N pre W' ∧ W'.ownsRow w.heap.size tyP 1 v ts.length (ptrs ts) ∧ Hid (∀ q ∈ ts, Row (W.heap.size + 1) W' q.2 q.1))
  case atStart =>
    refine ⟨[], [(some ⟨W.heap.size, 0, none⟩, .cons x0 b0 .nil)], rfl, ?_, by simp [ends, nums, tnums], ?_, ?_, ?_⟩
    · show List.Perm _ _
      simp [flat, nums, tnums]
    · exact hC.kept ((hC.1.alloc hbW _).alloc (by simp; omega) _) (fun b t cs _ hk => (hk.alloc _).alloc _)
    · refine ⟨by simp [ptrs], .inr ⟨W.heap.size + 1, 1, #[.pointer (some ⟨W.heap.size, 0, none⟩)], rfl, by omega, ?_, Nat.le_refl _, by simp [maxLen], by simp, by simp [ptrs]⟩⟩
      have := heap_alloc_new (W.alloc (.cells #[.pointer (some ⟨h0, 0, none⟩), .pointer none] tyR)) (.cells #[.pointer (some ⟨W.heap.size, 0, none⟩)] tyP)
      simpa using this
    · exact Lib.hid (by simpa using hr2)
  case round =>
    clear hC hr2 hb1
    obtain ⟨pre, ts, hk, hpm, hen, hC, hrow, hts⟩ := hrel
    rcases List.eq_nil_or_concat ts with rfl | ⟨ts, ⟨q, t⟩, rfl⟩
    · have hd : ∃ l, l.Perm (tnums (some (x0, b0))) ∧ Coll w B N l wr := ⟨pre, by have := hpm.out; simpa [flat] using this, hC⟩
      replace hd := Lib.hid hd
      clear hen hpm hts hk
      obtain ⟨a, c, rfl⟩ : ∃ a c, u4 = .slice a 0 c := by
        rcases hrow.2 with ⟨h, _⟩ | ⟨g, cap, cur, h, _⟩
        · exact ⟨_, _, h⟩
        · exact ⟨_, _, h⟩
      clear hrow
      go_wp2_with fail
      go_end0
      exact ⟨rfl, hd.out⟩
    · rw [List.concat_eq_append] at hk hpm hen hrow hts
      have hrow2 : wr.ownsRow w.heap.size tyP 1 u4 ((ptrs ts).length + 1) (ptrs ts ++ [.pointer q]) := by
        rw [ptrs_app] at hrow
        rw [ptrs_len]
        simpa [ptrs] using hrow
      obtain ⟨g, cap, rfl, hcell, hcap, hrow3⟩ := row_last hrow2
      have hnt : Row (W.heap.size + 1) wr t q := hts.out (q, t) (by simp)
      replace hts : Hid (∀ q ∈ ts, Row (W.heap.size + 1) wr q.2 q.1) := Lib.hid fun x hx => hts.out x (by simp [hx])
      have hel := ends_len ts
      rw [ptrs_len] at hcell hcap hrow3
      rw [turns_app] at hk
      rw [ends_app] at hen
      rw [flat_app] at hpm
      simp only [turns, ends, Nat.add_zero] at hk hen
      have hn64 : ts.length < 4611686018427387904 := by omega
      rw [show (ptrs ts).length + 1 = ts.length + 1 by rw [ptrs_len]]
      clear hrow hrow2
      obtain ⟨n, hn⟩ : ∃ n, ts.length = n := ⟨_, rfl⟩
      rw [hn] at hcell hcap hrow3 hn64 ⊢
      rcases t with _ | ⟨x, d, m⟩
      · obtain rfl : q = none := hnt
        have hpm2 : Hid ((pre ++ flat ts).Perm (tnums (some (x0, b0)))) := Lib.hid (by have := hpm.out; simpa [flat, nums] using this)
        have hk2 : turns ts < gk := by simp [nums] at hk; omega
        have hen2 : ends ts ≤ (tnums (some (x0, b0))).length + 1 := by omega
        have hh := Lib.hid (show turns ts < gk ∧ ends ts ≤ (tnums (some (x0, b0))).length + 1 from ⟨hk2, hen2⟩)
        clear hpm hk hen hk2 hen2 hel
        go_wp2_with fail
        go_roundg (turns ts)
        case measure => exact hh.out.1
        case rel => exact ⟨pre, ts, rfl, hpm2, hh.out.2, hC, by rw [hn]; exact hrow3, hts⟩
      · obtain ⟨h, k, c, e, rfl, hh, hkr, hhk, hkt, hd, hm⟩ := hnt
        have hpl := hpm.out.length_eq
        simp only [flat, List.flatMap_cons, List.flatMap_nil, nums, List.append_nil, List.length_append, List.length_cons] at hpl
        simp only [nums, List.length_cons, List.length_append] at hk hen
        have hpre : pre.length < N := by omega
        have hpm2 : Hid (((pre ++ [x]) ++ flat (ts ++ [(e, m), (c, d)])).Perm (tnums (some (x0, b0)))) := Lib.hid (by
          refine List.Perm.trans ?_ hpm.out
          simp only [flat, List.flatMap_append, List.flatMap_cons, List.flatMap_nil, nums, List.append_nil, List.append_assoc]
          refine List.Perm.append_left pre ?_
          rw [List.singleton_append]
          refine List.Perm.trans (List.Perm.cons x (List.Perm.append_left _ List.perm_append_comm)) ?_
          exact List.perm_middle.symm)
        have hk2 : turns (ts ++ [(e, m), (c, d)]) < gk := by rw [turns_app]; simp only [turns]; omega
        have hen2 : ends (ts ++ [(e, m), (c, d)]) ≤ (tnums (some (x0, b0))).length + 1 := by rw [ends_app]; simp only [ends]; omega
        have hnb : n + 2 ≤ 17592186044401 := by have := ends_len (ts ++ [(e, m), (c, d)]); simp at this; omega
        have hts2 : Hid (∀ q ∈ ts ++ [(e, m), (c, d)], Row (W.heap.size + 1) wr q.2 q.1) := Lib.hid (by
          intro q hq
          rcases List.mem_append.1 hq with hq | hq
          · exact hts.out q hq
          · simp at hq
            rcases hq with rfl | rfl
            · exact hm
            · exact hd)
        have hq := Lib.hid (show turns (ts ++ [(e, m), (c, d)]) < gk ∧ ends (ts ++ [(e, m), (c, d)]) ≤ (tnums (some (x0, b0))).length + 1 from ⟨hk2, hen2⟩)
        obtain ⟨r0, r1⟩ := hkr.cells2
        obtain ⟨k0, k1⟩ := hkt.cells2
        clear hpm hk hen hk2 hen2 hel hts hd hm hpl hN hS
        go_wp2_with (go_at_call 21; (with_reducible refine (add_coll x hC hpre).mono ?_); rintro e w1 ⟨rfl, hC1, hO⟩; have hrow5 : w1.ownsRow w.heap.size tyP 1 (.slice (some ⟨g, 0, none⟩) n cap) n (ptrs ts) := (row_keep hrow3 (fun g cs hk => hO g tyP cs (by decide) (by decide) hk)); have hkr1 := hO _ _ _ (by decide) (by decide) hkr; have hkt1 := hO _ _ _ (by decide) (by decide) hkt; clear r0 r1 k0 k1; obtain ⟨r0, r1⟩ := hkr1.cells2; obtain ⟨k0, k1⟩ := hkt1.cells2; have lr := hkr1.lt; have lk := hkt1.lt; have hkp := hO.keep; clear hO hC hcell)
        apply rel.region_tail (C := fun w' => Below w1.heap.size w1 w') (X := fun w w' => Below w.heap.size w w') 13 (by kernel_rfl) (by kernel_rfl) (by kernel_rfl) (by kernel_rfl) ((Below.refl _ _).drew)
        (apply rel.walk_val; (focus (intro wq hq hf; go_wp2; refine ⟨hq, Below.refl _ _, ?_, rfl⟩; (show rel.slot _ _ = _; simp only [rel.slot_lit, List.getD_cons_succ, List.getD_cons_zero]; (first | done | exact rfl)))); (simp only [rel.put_lit, List.set_cons_succ, List.set_cons_zero]))
        (apply rel.walk_val; (focus (intro wq hq hf; go_wp2; refine ⟨hq, Below.refl _ _, ?_, rfl⟩; (show rel.slot _ _ = _; simp only [rel.slot_lit, List.getD_cons_succ, List.getD_cons_zero]; (first | done | exact rfl)))); (simp only [rel.put_lit, List.set_cons_succ, List.set_cons_zero]))
        (apply rel.walk_val; (focus (intro wq hq hf; go_wp2; refine ⟨hq, Below.refl _ _, ?_, rfl⟩; (show rel.slot _ _ = _; simp only [rel.slot_lit, List.getD_cons_succ, List.getD_cons_zero]; (first | done | exact rfl)))); (simp only [rel.put_lit, List.set_cons_succ, List.set_cons_zero]))
        (apply rel.walk_val; (focus (intro wq hq hf; go_wp2; refine ⟨hq, Below.refl _ _, ?_, rfl⟩; (show rel.slot _ _ = _; simp only [rel.slot_lit, List.getD_cons_succ, List.getD_cons_zero]; (first | done | exact rfl)))); (simp only [rel.put_lit, List.set_cons_succ, List.set_cons_zero]))
        ((apply rel.walk_val; (focus (intro wq hq hf; (have d0 := (hq.cell (p := ⟨h, 1, none⟩) lr).trans r1); go_wp2; refine ⟨hq, Below.refl _ _, ?_, rfl⟩; (show rel.slot _ _ = _; simp only [rel.slot_lit, List.getD_cons_succ, List.getD_cons_zero]; (first | done | exact rfl)))); (simp only [rel.put_lit, List.set_cons_succ, List.set_cons_zero])))
        (apply rel.walk_val; (focus (intro wq hq hf; go_wp2; refine ⟨hq, Below.refl _ _, ?_, rfl⟩; (show rel.slot _ _ = _; simp only [rel.slot_lit, List.getD_cons_succ, List.getD_cons_zero]; (first | done | exact rfl)))); (simp only [rel.put_lit, List.set_cons_succ, List.set_cons_zero]))
        (apply rel.walk_val; (focus (intro wq hq hf; go_wp2; refine ⟨hq, Below.refl _ _, ?_, rfl⟩; (show rel.slot _ _ = _; simp only [rel.slot_lit, List.getD_cons_succ, List.getD_cons_zero]; (first | done | exact rfl)))); (simp only [rel.put_lit, List.set_cons_succ, List.set_cons_zero]))
        (apply rel.walk_val; (focus (intro wq hq hf; go_wp2; refine ⟨hq, Below.refl _ _, ?_, rfl⟩; (show rel.slot _ _ = _; simp only [rel.slot_lit, List.getD_cons_succ, List.getD_cons_zero]; (first | done | exact rfl)))); (simp only [rel.put_lit, List.set_cons_succ, List.set_cons_zero]))
        ((apply rel.walk_val; (focus (intro wq hq hf; (have d0 := (hq.cell (p := ⟨h, 0, none⟩) lr).trans r0); go_wp2; refine ⟨hq, Below.refl _ _, ?_, rfl⟩; (show rel.slot _ _ = _; simp only [rel.slot_lit, List.getD_cons_succ, List.getD_cons_zero]; (first | done | exact rfl)))); (simp only [rel.put_lit, List.set_cons_succ, List.set_cons_zero])))
        (apply rel.walk_val; (focus (intro wq hq hf; go_wp2; refine ⟨hq, Below.refl _ _, ?_, rfl⟩; (show rel.slot _ _ = _; simp only [rel.slot_lit, List.getD_cons_succ, List.getD_cons_zero]; (first | done | exact rfl)))); (simp only [rel.put_lit, List.set_cons_succ, List.set_cons_zero]))
        (apply rel.walk_val; (focus (intro wq hq hf; go_wp2; refine ⟨hq, Below.refl _ _, ?_, rfl⟩; (show rel.slot _ _ = _; simp only [rel.slot_lit, List.getD_cons_succ, List.getD_cons_zero]; (first | done | exact rfl)))); (simp only [rel.put_lit, List.set_cons_succ, List.set_cons_zero]))
        ((apply rel.walk_val; (focus (intro wq hq hf; (have d0 := (hq.cell (p := ⟨k, 1, none⟩) lk).trans k1); go_wp2; refine ⟨hq, Below.refl _ _, ?_, rfl⟩; (show rel.slot _ _ = _; simp only [rel.slot_lit, List.getD_cons_succ, List.getD_cons_zero]; (first | done | exact rfl)))); (simp only [rel.put_lit, List.set_cons_succ, List.set_cons_zero])))
        (apply rel.walk_rel (fun u w' => ∃ g, u = .slice (some ⟨g, 0, none⟩) 2 2 ∧ hp.Blk w' g tyP [.pointer e, .pointer c]) ⟨_, rfl⟩ (fun u w1 w2 h1 h2 => by obtain ⟨g, he, hk⟩ := h2; exact ⟨g, he, hk.on h1⟩); (focus (intro wq hq hf; go_wp2; refine ⟨hq.alloc hq.size _, (Below.refl _ _).alloc (Nat.le_refl _) _, ?_, rfl⟩; (show ∃ g, rel.slot _ _ = _ ∧ _; simp only [rel.slot_lit, List.getD_cons_succ, List.getD_cons_zero]; exact ⟨_, rfl, hp.Blk.new _ _ _⟩))); (intro u wu _ hu; obtain ⟨gu, rfl, -⟩ := hu; (simp only [rel.put_lit, List.set_cons_succ, List.set_cons_zero])))
        refine rel.walk_nil ?_
        intro w9 K9 hF
        obtain ⟨G, he, hu⟩ : ∃ G, Value.slice (some ⟨gu, 0, none⟩) 2 2 = .slice (some ⟨G, 0, none⟩) 2 2 ∧ hp.Blk w9 G tyP [.pointer e, .pointer c] := hF _ (List.mem_cons_self ..)
        obtain rfl : gu = G := by simpa using he
        have hrow6 := hp.row_on hrow5 K9
        have hC5 := hC1.kept (hC1.1.trans (K9.mono hC1.1.size)) (fun b t cs _ hk => hk.on K9)
        replace hkp := hkp.trans (Keep.of_below K9)
        simp only [List.drop_succ_cons, List.drop_zero]
        clear hF he hrow5 hC1 hkr hkr1 hkt hkt1 r0 r1 k0 k1
        go_wp2_with (at_builtin; refine wpList_append_own _ rfl _ _ 56 rfl w.heap.size tyP i0 (.pointer none) 1 8 Try.underlying56 hi hz0 hz1 hz2 rfl (by decide) _ _ _ rfl hrow6 ⟨gu, 0, none⟩ 2 2 [.pointer e, .pointer c] rfl rfl (cell_two hu) (by simp [Value.oneCell']) (by unfold maxLen; omega) (by omega) hC5.1.size ?_; intro v' w2 hown' hgrow _)
        go_roundg (turns (ts ++ [(e, m), (c, d)]))
        case measure => exact hq.out.1
        case rel =>
          refine ⟨pre ++ [x], _, rfl, hpm2, hq.out.2, ?_, ?_, ?_⟩
          · exact hC5.kept (hC5.1.grown hgrow hC5.1.size (fun k hk => (hrow6.lt k hk).1)) (fun b t cs ht hk => (hgrow.block b hk.lt (hk.not_row ht hrow6)).trans hk)
          · rw [List.length_append, hn, ptrs_app]
            exact hown'
          · refine Lib.hid fun q hq => ((hts2.out q hq).keep hkp).keep fun b t cs ht hk => (hgrow.block b hk.lt (hk.not_row (by rcases ht with rfl | rfl <;> decide) hrow6)).trans hk

set_option maxHeartbeats 4000000 in
theorem ints_own {v : Value} {l : List Int} {w : World} (hv : IsHeap w w.heap.size v l) (hbd : l.length ≤ 17592186044400) :
    Calls Try.prog 12 #[v] w fun e w' => (∃ u, e = .returned u ∧ w'.ownsRow w.heap.size 3 1 u l.length ((srt l).map (Value.int .i64))) ∧ Below w.heap.size w w' := by
  have hv' := hv
  obtain ⟨p, r, rfl, hc, -, hpm, -⟩ := hv'
  obtain ⟨i0, hi, hz0, hz1, hz2⟩ := info_parts same.infoInt
  have hb0 : Below w.heap.size w (w.alloc (.cells #[.pointer p, .int .i64 l.length] tyH)) := by
    ((repeat' (first | with_reducible exact Below.refl _ _ | with_reducible apply Below.setCell | with_reducible apply below_drewN | with_reducible apply Below.drew | with_reducible apply Below.alloc | with_reducible refine Below.trans ?_ (Below.mono (by assumption) ?_))) <;> (first | (simp; done) | (simp; omega) | omega))
  have hA := hp.Blk.new w [.pointer p, .int .i64 l.length] tyH
  have hnl := hpm.length_eq
  have hse : ∀ m, m.Perm (tnums r) → srt m = srt l ∧ m.length = l.length := fun m hm => ⟨srt_eq (hm.trans hpm), by rw [hm.length_eq, hnl]⟩
  clear hv
  replace hse := Lib.hid hse
  go_enter Try.func12, Try.ntmps12
  go_wp2_with (at_make; refine wpList_make_own _ rfl _ _ 22 rfl w.heap.size 3 i0 (.int .i64 0) 1 Try.underlying22 hi hz0 hz1 .i64 .i64 _ l.length rfl rfl rfl (by rw [hz2]; omega) (by unfold maxLen; omega) (by simp) ?_; intro w1 hown1 hgrow1; have hb1 := (Below.refl _ _).grown hgrow1 (Nat.le_refl _) (fun k e => by cases e); have hA1 := hA.on hb1; obtain ⟨c0, c1⟩ := hA1.cells2; have hlt1 := hA1.lt)
  have hbA := hb0.trans (hb1.mono hb0.size)
  have hC0 : Coll w w1.heap.size l.length [] (w1.alloc (.cells #[.slice (some ⟨w.heap.size + 1, 0, none⟩) 0 l.length] 22)) :=
    ⟨hbA.alloc hbA.size _, hbA.size, w.heap.size + 1, hp.Blk.newAt (cs := [.slice (some ⟨w.heap.size + 1, 0, none⟩) 0 l.length]) rfl, by simpa using hown1.alloc _⟩
  have hea := each_any (t := r) (p := p) (N := l.length) hc (by omega) (by omega) hC0
  clear hA1 hgrow1 hown1 hb1 c0 c1 hA hb0 hC0 hbA hlt1
  go_wp2_with (first
    | (go_at_call 20; (with_reducible refine hea.mono ?_); clear hea; rintro e w3 ⟨rfl, m, hm, hb3, hB3, g, hk, hrow⟩; obtain ⟨hs, hml⟩ := hse.out m hm; rw [hml] at hk hrow; (have d0 := (hk).cell 0; simp only [List.getElem?_cons_zero] at d0))
    | (go_at_call 22; (refine (srt.sort_own hml hrow (by omega)).mono ?_); rintro e w4 ⟨rfl, hrow4, hgr⟩; have hk4 : hp.Blk w4 w1.heap.size 22 [.slice (some ⟨g, 0, none⟩) l.length l.length] := (hgr.block w1.heap.size hk.lt (hk.not_row (by decide) hrow)).trans hk; clear d0; (have d0 := (hk4).cell 0; simp only [List.getElem?_cons_zero] at d0); have hb4 := hb3.grown hgr hb3.size (fun k hk => (hrow.lt k hk).1)))
  go_ret
  rw [hs] at hrow4
  exact ⟨⟨_, rfl, hrow4⟩, hb4⟩

theorem ints_any {v : Value} {l : List Int} {w : World} (hv : IsHeap w w.heap.size v l) (hbd : l.length ≤ 17592186044400) :
    Calls Try.prog 12 #[v] w fun e w' => (∃ u, e = .returned u ∧ hp.IsInts w' w'.heap.size u (srt l)) ∧ Below w.heap.size w w' :=
  (ints_own hv hbd).mono fun _ _ ⟨⟨u, he, hu⟩, hb⟩ => ⟨⟨u, he, hp.IsInts.of_owns hu (srt_len l).symm (fun x hx => hv.wf x ((srt_perm l).mem_iff.1 hx))⟩, hb⟩
end Go.Proofs.Ytnfoadhhgonfkaa.par
