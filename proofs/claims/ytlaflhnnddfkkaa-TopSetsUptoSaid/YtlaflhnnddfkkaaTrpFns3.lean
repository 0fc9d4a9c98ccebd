/- Package treap: add, whole, take. -/
import Derived.Test.YtlaflhnnddfkkaaTrpFns2
namespace Go.Proofs.Ytlaflhnnddfkkaa.trp
open Go Go.RowKit
open Go.Proofs.Ytlaflhnnddfkkaa.sch
set_option linter.unusedVariables false

theorem infoTree : (Try.prog.info? tyT).map (fun i => (i.zero, i.size, i.bytes)) = some (some (.agg #[.int .i64 0, .int .i64 0, .pointer none, .pointer none]), 4, 32) := by kernel_rfl

/-- what add's end leaves -/
theorem added {x : Int} {st : Pth} {T : Tr} {p : Option Addr} {D : List Int} (h1 : Tp (whole st T)) (h2 : keys (whole st T) = D) (h3 : mkLt T (prio x)) (h4 : outr st (prio x) = true) :
    Tp (whole ((p, x, T) :: st) .nil) ∧ keys (whole ((p, x, T) :: st) .nil) = D ++ [x] := by
  obtain ⟨hT, -⟩ := whole_tp h1
  refine ⟨whole_put (st := st) h1 ⟨rfl, h3, trivial, hT, trivial⟩ fun q hq => ?_, ?_⟩
  · cases st with
    | nil => simp at hq
    | cons q' st =>
      obtain rfl : q' = q := by simpa using hq
      exact show prio x ≤ prio q'.2.1 from of_decide_eq_true h4
  · show keys (whole st (.node x (prio x) T .nil)) = _
    rw [whole_keys, ← h2, whole_keys st T]
    simp [keys]

set_option maxRecDepth 100000 in
set_option maxHeartbeats 8000000 in
theorem add_any {W : World} {base b : Nat} {r : Option Nat} {D : List Int} {T : Tr} {x : Int} (h : Gr W base b r D T) (hT : mkLt T (prio x)) (hl : D.length < 4398046511104) (hB : base ≤ W.heap.size) :
    Calls Try.prog 84 #[.pointer (some ⟨b, 0, none⟩), .int .i64 x] W fun e W' => e = .returned (.tuple #[]) ∧ (∃ r', Gr W' base b r' (D ++ [x]) .nil ∧ Fr W r r') ∧ Chg b r W W' := by
  obtain ⟨i0, hi, hz0, hz1, hz2⟩ := info_parts infoTree
  obtain ⟨st, v, p, hm, htp, hk⟩ := h
  have hpr := prio_any x W
  go_enter Try.func84, Try.ntmps84
  go_wp2_with (go_at_call 95; (with_reducible refine hpr.mono ?_); clear hpr; rintro e w1 ⟨rfl, rfl⟩)
  go_loopg [] st.length (fun k W' => ∃ (st' : Pth) (T' : Tr) (v' : Value) (p' : Option Addr), Gm W' base b r st' T' v' p' ∧ Hid (Tp (whole st' T') ∧ keys (whole st' T') = D ∧ mkLt T' (prio x)) ∧ k = st'.length ∧ Chg b r W W')
  case atStart => exact ⟨st, T, v, p, hm, ⟨htp, hk, hT⟩, rfl, Chg.refl _ _ _⟩
  case round =>
    clear hm htp hk hT
    obtain ⟨st', T', v', p', hm, hmath, hk2, hc⟩ := hrel
    have hsl := whole_len st' T'
    rw [hmath.out.2.1] at hsl
    have hout := outranks_any hm (prio x) (by omega)
    rcases hf : outr st' (prio x) with _ | _
    · rcases st' with _ | ⟨q, st'⟩
      · cases hf
      rw [hf] at hout
      have hlt : prio q.2.1 < prio x := by have := of_decide_eq_false hf; omega
      simp only [List.length_cons] at hsl hk2
      have hcl := fun W1 (hb : Below wr.heap.size wr W1) => close_any (hm.kept fun _ _ _ _ hg => hg.on hb) (by omega)
      have hmath2 : Hid (Tp (whole st' (.node q.2.1 (prio q.2.1) q.2.2 T')) ∧ keys (whole st' (.node q.2.1 (prio q.2.1) q.2.2 T')) = D ∧ mkLt (.node q.2.1 (prio q.2.1) q.2.2 T') (prio x)) := Lib.hid ⟨hmath.out.1, hmath.out.2.1, hlt⟩
      have hdec := Lib.hid (show st'.length < gk from by omega)
      clear hmath hf hlt hsl hk2 hm
      go_wp2_with (first
        | (go_at_call 94; (with_reducible refine hout.mono ?_); clear hout; rintro e w1 ⟨rfl, hb1⟩)
        | (go_at_call 96; (with_reducible refine (hcl _ hb1).mono ?_); clear hcl; rintro e w2 ⟨rfl, ⟨v2, p2, hm2⟩, hc2⟩))
      go_roundg st'.length
      case measure => exact hdec.out
      case rel => exact ⟨st', _, v2, p2, hm2, hmath2, rfl, (hc.trans (Chg.of_below hb1) (Fr.refl _ _)).trans hc2 (Fr.refl _ _)⟩
    · rw [hf] at hout
      have hend : Hid (∀ p, Tp (whole ((p, x, T') :: st') .nil) ∧ keys (whole ((p, x, T') :: st') .nil) = D ++ [x]) := Lib.hid fun p => added hmath.out.1 hmath.out.2.1 hmath.out.2.2 hf
      clear hf hmath hk2
      obtain ⟨a, cap, rfl⟩ := rowN_val hm.row
      have hm1 := fun W1 (hb : Below wr.heap.size wr W1) => hm.kept (W' := W1) fun _ _ _ _ hg => hg.on hb
      clear hm
      go_wp2_with (go_at_call 94; (with_reducible refine hout.mono ?_); clear hout; rintro e w1 ⟨rfl, hb1⟩; have hm := hm1 _ hb1; clear hm1)
      replace hc := hc.trans (Chg.of_below (b := b) (r := r) hb1) (Fr.refl _ _)
      clear hb1
      have hbox := hm.box
      have hrow := hm.row
      have hblk := hm.blk
      have hown := hm.own
      have hlt := hm.lt
      have hL := hm.lefts
      have hTr := hm.tree
      have hBw : base ≤ w1.heap.size := by have := hc.size; omega
      have hfr : ∀ γ, w1.heap.size ≤ γ → some γ ≠ r := fun γ hγ e => by have := hlt γ e.symm; omega
      have hne : some b ≠ r := fun e => by
        rw [← hblk] at e
        rcases hrow.2 with ⟨h2, _⟩ | ⟨g', cap', cur, hv, hb, hg, _⟩
        · rw [h2] at e; cases e
        · rw [hv] at e
          simp only [Value.ownBlock, Option.some.injEq] at e
          subst e
          exact blk_ne (show hp.Blk w1 b tyT cur.toList by unfold hp.Blk; rw [hg]) hbox (by decide) rfl
      clear hm hlt
      obtain ⟨n, hn⟩ : ∃ n, n = st'.length := ⟨_, rfl⟩
      have hnl : n < 4398046511104 := by omega
      rw [← hn] at hbox hrow hblk
      replace hn := Lib.hid hn
      clear hsl
      apply rel.region_tail (C := Cg w1 base tyT 4 n (fl st') (.slice a n cap) r) (X := Xg base tyT 4 (n + 1) (fl st' ++ [Value.int .i64 x, Value.int .i64 (prio x), Value.pointer p', Value.pointer none]) r) 16 (by kernel_rfl) (by kernel_rfl) (by kernel_rfl) (by kernel_rfl) (Cg.start hrow)
      (apply rel.walk_val; (focus (intro wq hq hf; go_wp2; refine ⟨hq, Xg.refl _, ?_, rfl⟩; (show rel.slot _ _ = _; simp only [rel.slot_lit, List.getD_cons_succ, List.getD_cons_zero]; (first | done | exact rfl)))); (simp only [rel.put_lit, List.set_cons_succ, List.set_cons_zero]))
      (apply rel.walk_val; (focus (intro wq hq hf; go_wp2; refine ⟨hq, Xg.refl _, ?_, rfl⟩; (show rel.slot _ _ = _; simp only [rel.slot_lit, List.getD_cons_succ, List.getD_cons_zero]; (first | done | exact rfl)))); (simp only [rel.put_lit, List.set_cons_succ, List.set_cons_zero]))
      (apply rel.walk_val; (focus (intro wq hq hf; go_wp2; refine ⟨hq, Xg.refl _, ?_, rfl⟩; (show rel.slot _ _ = _; simp only [rel.slot_lit, List.getD_cons_succ, List.getD_cons_zero]; (first | done | exact rfl)))); (simp only [rel.put_lit, List.set_cons_succ, List.set_cons_zero]))
      (apply rel.walk_val; (focus (intro wq hq hf; go_wp2; refine ⟨hq, Xg.refl _, ?_, rfl⟩; (show rel.slot _ _ = _; simp only [rel.slot_lit, List.getD_cons_succ, List.getD_cons_zero]; (first | done | exact rfl)))); (simp only [rel.put_lit, List.set_cons_succ, List.set_cons_zero]))
      (apply rel.walk_val; (focus (intro wq hq hf; (have d1 := (hq.blk hbox hne).cell 0; simp only [List.getElem?_cons_zero] at d1); go_wp2; refine ⟨hq, Xg.refl _, ?_, rfl⟩; (show rel.slot _ _ = _; simp only [rel.slot_lit, List.getD_cons_succ, List.getD_cons_zero]; (first | done | exact rfl)))); (simp only [rel.put_lit, List.set_cons_succ, List.set_cons_zero]))
      (apply rel.walk_val; (focus (intro wq hq hf; go_wp2; refine ⟨hq, Xg.refl _, ?_, rfl⟩; (show rel.slot _ _ = _; simp only [rel.slot_lit, List.getD_cons_succ, List.getD_cons_zero]; (first | done | exact rfl)))); (simp only [rel.put_lit, List.set_cons_succ, List.set_cons_zero]))
      (apply rel.walk_val; (focus (intro wq hq hf; go_wp2; refine ⟨hq, Xg.refl _, ?_, rfl⟩; (show rel.slot _ _ = _; simp only [rel.slot_lit, List.getD_cons_succ, List.getD_cons_zero]; (first | done | exact rfl)))); (simp only [rel.put_lit, List.set_cons_succ, List.set_cons_zero]))
      (apply rel.walk_val; (focus (intro wq hq hf; go_wp2; refine ⟨hq, Xg.refl _, ?_, rfl⟩; (show rel.slot _ _ = _; simp only [rel.slot_lit, List.getD_cons_succ, List.getD_cons_zero]; (first | done | exact rfl)))); (simp only [rel.put_lit, List.set_cons_succ, List.set_cons_zero]))
      (apply rel.walk_val; (focus (intro wq hq hf; go_wp2; refine ⟨hq, Xg.refl _, ?_, rfl⟩; (show rel.slot _ _ = _; simp only [rel.slot_lit, List.getD_cons_succ, List.getD_cons_zero]; (first | done | exact rfl)))); (simp only [rel.put_lit, List.set_cons_succ, List.set_cons_zero]))
      (apply rel.walk_val; (focus (intro wq hq hf; go_wp2; refine ⟨hq, Xg.refl _, ?_, rfl⟩; (show rel.slot _ _ = _; simp only [rel.slot_lit, List.getD_cons_succ, List.getD_cons_zero]; (first | done | exact rfl)))); (simp only [rel.put_lit, List.set_cons_succ, List.set_cons_zero]))
      (apply rel.walk_val; (focus (intro wq hq hf; (have d1 := (hq.blk hbox hne).cell 1; simp only [List.getElem?_cons_succ, List.getElem?_cons_zero] at d1); go_wp2; refine ⟨hq, Xg.refl _, ?_, rfl⟩; (show rel.slot _ _ = _; simp only [rel.slot_lit, List.getD_cons_succ, List.getD_cons_zero]; (first | done | exact rfl)))); (simp only [rel.put_lit, List.set_cons_succ, List.set_cons_zero]))
      (apply rel.walk_val; (focus (intro wq hq hf; go_wp2; refine ⟨hq, Xg.refl _, ?_, rfl⟩; (show rel.slot _ _ = _; simp only [rel.slot_lit, List.getD_cons_succ, List.getD_cons_zero]; (first | done | exact rfl)))); (simp only [rel.put_lit, List.set_cons_succ, List.set_cons_zero]))
      (apply rel.walk_rel (fun u w' => ∃ γ, u = .slice (some ⟨γ, 0, none⟩) 1 1 ∧ w1.heap.size ≤ γ ∧ hp.Blk w' γ tyT [Value.int .i64 x, Value.int .i64 (prio x), Value.pointer p', Value.pointer none]) ⟨_, rfl⟩ (fun u w1 w2 h1 h2 => by obtain ⟨γ, he, hl, hk⟩ := h2; exact ⟨γ, he, hl, h1.blk hk (hfr γ hl)⟩); (focus (intro wq hq hf; go_wp2; refine ⟨hq.alloc _, Xg.alloc _ _, ?_, rfl⟩; (show ∃ γ, rel.slot _ _ = _ ∧ _; simp only [rel.slot_lit, List.getD_cons_succ, List.getD_cons_zero]; exact ⟨_, rfl, hq.1.size, hp.Blk.new _ _ _⟩))); (intro u wu _ hu; obtain ⟨γ, rfl, -, -⟩ := hu; (simp only [rel.put_lit, List.set_cons_succ, List.set_cons_zero])))
      apply rel.walk_rel (fun u w' => Ap base tyT 4 (n + 1) (fl st' ++ [Value.int .i64 x, Value.int .i64 (prio x), Value.pointer p', Value.pointer none]) w1 r u w') ⟨_, rfl⟩ (fun u w1 w2 h1 h2 => h2.on h1)
      focus
        intro wq hq hf
        obtain ⟨γ', he, hγ, hk⟩ := hf.get 0 rfl rfl
        cases he
        go_wp2_with (at_builtin; refine wpList_append_own2 _ rfl _ _ 91 rfl base tyT i0 (.agg #[.int .i64 0, .int .i64 0, .pointer none, .pointer none]) 4 32 Try.underlying91 hi hz0 hz1 hz2 rfl (by decide) (.slice a n cap) n (fl st') rfl hq.2 ⟨_, 0, none⟩ 1 [Value.int .i64 x, Value.int .i64 (prio x), Value.pointer p', Value.pointer none] rfl rfl (cell_blk hk) (by simp [Value.oneCell']) (by unfold maxLen; omega) (by omega) (by have := hq.1.size; omega) ?_; intro v' w2 h1 h2 h3 h4 h5; rw [hblk] at h2 h3)
        refine ⟨⟨gtrans hq.1 h2, h4⟩, ⟨h2, h5⟩, ?_, rfl⟩
        show Ap _ _ _ _ _ _ _ (rel.slot _ _) _
        simp only [rel.slot_lit, List.getD_cons_succ, List.getD_cons_zero]
        exact ⟨h1, h3.old hq.1.size⟩
      intro u wu _ hu
      obtain ⟨a', c', rfl⟩ := rowN_val hu.1
      clear hu
      (simp only [rel.put_lit, List.set_cons_succ, List.set_cons_zero])
      (apply rel.walk_val; (focus (intro wq hq hf; go_wp2; refine ⟨hq, Xg.refl _, ?_, rfl⟩; (show rel.slot _ _ = _; simp only [rel.slot_lit, List.getD_cons_succ, List.getD_cons_zero]; (first | done | exact rfl)))); (simp only [rel.put_lit, List.set_cons_succ, List.set_cons_zero]))
      (apply rel.walk_val; (focus (intro wq hq hf; go_wp2; refine ⟨hq, Xg.refl _, ?_, rfl⟩; (show rel.slot _ _ = _; simp only [rel.slot_lit, List.getD_cons_succ, List.getD_cons_zero]; (first | done | exact rfl)))); (simp only [rel.put_lit, List.set_cons_succ, List.set_cons_zero]))
      refine rel.walk_nil ?_
      intro w9 K9 hF
      obtain ⟨hr9, hf9⟩ := hF _ (List.mem_cons_self ..)
      clear hF
      simp only [List.drop_succ_cons, List.drop_zero]
      have hbox9 := K9.blk hbox hne
      have f0 := hbox9.free 0
      have f1 := hbox9.free 1
      have c0 := hbox9.cell 0
      have c1 := hbox9.cell 1
      have l0 := hbox9.lt
      simp only [List.getElem?_cons_zero, List.getElem?_cons_succ] at c0 c1
      have hchg : Chg b r W w9 := hc.trans (Chg.of_grown K9.1) (Fr.refl _ _)
      have hx : ∀ t q, Nodx r w1 t q → Nodx (Value.slice a' (n + 1) c').ownBlock w9 t q := fun t q hn => hn.both K9.1 hf9
      go_wp2_with fail
      go_end0
      obtain rfl := hn.out
      obtain ⟨W1, hW1⟩ : ∃ W1, (w9.setCell ⟨b, 0, none⟩ (.slice a' (st'.length + 1) c')).setCell ⟨b, 1, none⟩ (.pointer none) = W1 := ⟨_, rfl⟩
      rw [hW1]
      have hset : ∀ t q r', Nodx r' w9 t q → Nodx r' W1 t q := fun t q r' hn => hn.kept fun g cs _ h2 => by rw [← hW1]; exact (h2.other (blk_ne h2 hbox9 (by decide)) _).other (blk_ne h2 hbox9 (by decide)) _
      refine ⟨rfl, ⟨_, ⟨(p', x, T') :: st', _, _, ⟨by rw [← hW1]; exact (hbox9.set 0 _).set 1 _, ?_, hown, rfl, fun q hq => ?_, rfl⟩, hend.out p'⟩, hf9.old hc.size⟩, by rw [← hW1]; exact (hchg.set 0 _).set 1 _⟩
      · rw [← hW1]
        exact hp.row_set (hp.row_set hr9 hbox9 (by decide) _) (hbox9.set 0 _) (by decide) _
      · rcases List.mem_cons.1 hq with rfl | hq
        · exact hset _ _ _ (hx _ _ hTr)
        · exact hset _ _ _ (hx _ _ (hL q hq))

/-- the treap of this list -/
def Good (K : List Int) (t : Tr) : Prop := Tp t ∧ keys t = K

set_option maxHeartbeats 8000000 in
theorem whole_any {W : World} {base b : Nat} {r : Option Nat} {D : List Int} {T : Tr} (h : Gr W base b r D T) (hl : D.length < 4398046511104) :
    Calls Try.prog 85 #[.pointer (some ⟨b, 0, none⟩)] W fun e W' => (∃ u, e = .returned u ∧ IsG W' u (Good D)) ∧ Chg b r W W' := by
  obtain ⟨st, v, p, hm, htp, hk⟩ := h
  go_enter Try.func85, Try.ntmps85
  go_wp2_with fail
  go_loopg [] st.length (fun k W' => ∃ (st' : Pth) (T' : Tr) (v' : Value) (p' : Option Addr), Gm W' base b r st' T' v' p' ∧ Hid (Tp (whole st' T') ∧ keys (whole st' T') = D) ∧ k = st'.length ∧ Chg b r W W')
  case atStart => exact ⟨st, T, v, p, hm, ⟨htp, hk⟩, rfl, Chg.refl _ _ _⟩
  case round =>
    clear hm htp hk
    obtain ⟨st', T', v', p', hm, hmath, hk2, hc⟩ := hrel
    have hsl := whole_len st' T'
    rw [hmath.out.2] at hsl
    have hbox := hm.box
    have c0 := hbox.cell 0
    have c1 := hbox.cell 1
    have l0 := hbox.lt
    obtain ⟨a, cap, rfl⟩ := rowN_val hm.row
    simp only [List.getElem?_cons_zero, List.getElem?_cons_succ] at c0 c1
    clear hbox
    rcases st' with _ | ⟨q, st'⟩
    · have hend : Hid (IsG wr (.pointer p') (Good D)) := Lib.hid ⟨p', T', rfl, hm.tree.nod, hmath.out.1, hmath.out.2⟩
      simp only [List.length_nil] at *
      clear hm hmath hsl
      go_wp2_with fail
      go_ret
      exact ⟨⟨_, rfl, hend.out⟩, hc⟩
    · simp only [List.length_cons] at hsl hk2 c0
      have hcl := close_any hm (by omega)
      have hmath2 : Hid (Tp (whole st' (.node q.2.1 (prio q.2.1) q.2.2 T')) ∧ keys (whole st' (.node q.2.1 (prio q.2.1) q.2.2 T')) = D) := Lib.hid ⟨hmath.out.1, hmath.out.2⟩
      obtain ⟨n, hn⟩ : ∃ n, n = st'.length := ⟨_, rfl⟩
      rw [← hn] at hsl hk2 c0
      have hdec := Lib.hid (show st'.length < gk from by omega)
      have hnl : n < 4398046511104 := by omega
      clear hmath hsl hk2 hm hn
      go_wp2_with (go_at_call 96; (with_reducible refine hcl.mono ?_); clear hcl; rintro e w2 ⟨rfl, ⟨v2, p2, hm2⟩, hc2⟩)
      go_roundg st'.length
      case measure => exact hdec.out
      case rel => exact ⟨st', _, v2, p2, hm2, hmath2, rfl, hc.trans hc2 (Fr.refl _ _)⟩

/-- what take does: a number is added; a tree goes below; or it is opened -/
def Tk (D : List Int) (T : Tr) (t : Tr) (st : Wt) (D' : List Int) (T' : Tr) (t' : Tr) (st' : Wt) : Prop :=
  (t = .nil ∧ T' = .nil ∧ ∃ p x m l, st = (p, .node x m l t') :: st' ∧ D' = D ++ [x]) ∨
  (t ≠ .nil ∧ T' = t ∧ t' = .nil ∧ st' = st ∧ D' = D ++ keys t) ∨
  (T' = .nil ∧ D' = D ∧ ∃ p x m r, t = .node x m t' r ∧ st' = (p, t) :: st)

/-- two boxes that are taken from, another one that stays as it is -/
def Third (w W W' : World) (b : Nat) (r r' : Option Nat) : Prop := ∀ b2 r2 t2 st2 v2 p2, b ≠ b2 → Sep r r2 → Rs w W b2 r2 t2 st2 v2 p2 → Rs w W' b2 r2 t2 st2 v2 p2 ∧ Sep r' r2
theorem Third.refl (w W : World) (b : Nat) (r : Option Nat) : Third w W W b r r := fun _ _ _ _ _ _ _ hs h => ⟨h, hs⟩
theorem Sep.fr {W : World} {r r' r2 : Option Nat} (h : Sep r r2) (hf : Fr W r r') (hlt : ∀ k, r2 = some k → k < W.heap.size) : Sep r' r2 := by
  rcases hf with rfl | ⟨k, rfl, hk⟩
  · exact h
  · refine .inr fun e => ?_
    have := hlt k e.symm
    omega
end Go.Proofs.Ytlaflhnnddfkkaa.trp
