/- Package search: Shape. -/
import Derived.Test.YtlaflhnnddfkkaaSchNds
namespace Go.Proofs.Ytlaflhnnddfkkaa.sch
open Go Go.RowKit

abbrev tyN : TypeId := 46
abbrev tyW : TypeId := 82
def wcell (q : Option Addr × Tr × Nat) : List Value := [.pointer q.1, .int .i64 (q.2.2 : Int)]
def wcells (st : Wait) : List Value := st.reverse.flatMap wcell
theorem wcells_cons (q : Option Addr × Tr × Nat) (st : Wait) : wcells (q :: st) = wcells st ++ wcell q := by simp [wcells]
theorem wcells_len (st : Wait) : (wcells st).length = st.length * 2 := by
  induction st with
  | nil => rfl
  | cons q st ih => rw [wcells_cons, List.length_append, ih, List.length_cons]; simp [wcell]; omega
theorem infoN : (Try.prog.info? tyN).map (fun i => (i.zero, i.size, i.bytes)) = some (some (.agg #[.int .i64 0, .int .i64 0, .int .i64 0, .int .i64 0]), 4, 32) := by kernel_rfl
theorem infoW : (Try.prog.info? tyW).map (fun i => (i.zero, i.size, i.bytes)) = some (some (.agg #[.pointer none, .int .i64 0]), 2, 16) := by kernel_rfl
/-- each is a tree in memory that is not empty, below a place that is told -/
def Wd (w : World) (n : Nat) (st : Wait) : Prop := ∀ q ∈ st, Nod w.heap.size w q.2.1 q.1 ∧ q.2.1 ≠ .nil ∧ q.2.2 < n
theorem Wd.len {w : World} {n : Nat} : ∀ {st : Wait}, Wd w n st → st.length ≤ waits st
  | [], _ => by simp
  | ⟨p, t, i⟩ :: st, h => by
    have h1 := Wd.len (st := st) fun q hq => h q (by simp [hq])
    obtain ⟨z, tl, e⟩ := keys_ne (h (p, t, i) (by simp)).2.1
    simp only [waits, List.length_cons, e]
    omega
theorem Wd.more {w : World} {n n' : Nat} {st : Wait} (h : Wd w n st) (hn : n ≤ n') : Wd w n' st := fun q hq => ⟨(h q hq).1, (h q hq).2.1, Nat.lt_of_lt_of_le (h q hq).2.2 hn⟩

theorem row_ne {w : World} {base size n : Nat} {e : TypeId} {v u : Value} {xs : List Value} {a : Addr} (h : w.ownsRow base e size v n xs) (hne : v.ownBlock ≠ some a.block) : (w.setCell a u).ownsRow base e size v n xs :=
  h.kept (row := some a.block) ⟨rfl, rfl, rfl, by simp [World.setCell], fun i _ hi => Below.heap_setCell _ _ _ i (fun e => hi (by rw [e]))⟩ (.inr hne)

theorem idx_ne {t : Tr} (h : t ≠ .nil) (n : Nat) : idx t (n + 1) = (n : Int) + 1 := by
  cases t with
  | nil => exact absurd rfl h
  | node a b c d => simp [idx]

set_option maxRecDepth 100000 in
set_option maxHeartbeats 8000000 in
theorem shape_any {w : World} {r : Tr} {p : Option Addr} (hr : Nod w.heap.size w r p) (hS : (keys r).length ≤ 2097152) :
    Calls Try.prog 48 #[.pointer p] w fun e W' => (∃ u, e = .returned u ∧ W'.ownsRow w.heap.size tyN 4 u (keys r).length (flat (shp r 0))) ∧ Below w.heap.size w W' := by
  obtain ⟨i1, hi1, hy0, hy1, hy2⟩ := info_parts infoN
  obtain ⟨i2, hi2, hz0, hz1, hz2⟩ := info_parts infoW
  go_enter Try.func48, Try.ntmps48
  go_wp2_with fail
  go_loopg [0, 3, 4] (keys r).length (fun k u v z W' => ∃ (ns : List Nd) (t : Tr) (q : Option Addr) (st : Wait), u = .pointer q ∧ Nod w.heap.size w t q ∧ Hid (fin (ns ++ shp t ns.length) st = shp r 0) ∧ k = (keys t).length + waits st ∧ ns.length + k = (keys r).length ∧ Below w.heap.size w W' ∧ W'.ownsRow w.heap.size tyN 4 v ns.length (flat ns) ∧ W'.ownsRow w.heap.size tyW 2 z st.length (wcells st) ∧ Hid (Wd w ns.length st))
  case atStart => exact ⟨[], r, p, [], rfl, hr, by show _ = _; simp [fin], by simp [waits], by simp, Below.refl _ _, World.ownsRow_nil _ _ _ _, World.ownsRow_nil _ _ _ _, by show Wd _ _ _; simp [Wd]⟩
  case round =>
    clear hr
    obtain ⟨ns, t, q, st, rfl, hn, heq, hk, hkn, hb, hrow, hrow2, hst⟩ := hrel
    have hsl := hst.out.len
    rcases t with _ | ⟨x, m, l, rr⟩
    · obtain rfl : q = none := hn
      rcases st with _ | ⟨⟨p1, t1, j⟩, st⟩
      · have hd : wr.ownsRow w.heap.size tyN 4 u3 (keys r).length (flat (shp r 0)) := by
          have := heq.out
          simp only [fin, shp, List.append_nil] at this
          simp only [keys, waits, List.length_nil] at hk
          rw [← this, show (keys r).length = ns.length by omega]
          exact hrow
        obtain ⟨a, c, rfl⟩ := rowN_val hrow2
        clear heq hk hkn hst hrow hrow2 hsl
        go_wp2_with fail
        go_ret
        exact ⟨⟨_, rfl, hd⟩, hb⟩
      · obtain ⟨hn1, hne1, hj⟩ := hst.out (p1, t1, j) (List.mem_cons_self ..)
        obtain ⟨h, rfl, hh1⟩ := hn1.some hne1
        have hst2 : Hid (Wd w ns.length st) := Lib.hid fun y hy => hst.out y (List.mem_cons_of_mem _ hy)
        rw [wcells_cons, List.length_cons] at hrow2
        obtain ⟨g2, cz, rfl, hg2, hg2l, hc2, hce2, hfr2⟩ := rowN_cell hrow2 (by omega)
        have hrow3 := rowN_cut hrow2 (wcells_len st)
        have d0 := hce2 (st.length * 2) (.pointer (some ⟨h, 0, none⟩)) (by rw [List.getElem?_append_right (by rw [wcells_len]; omega), wcells_len, Nat.sub_self]; rfl)
        have d1 := hce2 (st.length * 2 + 1) (.int .i64 (j : Int)) (by rw [List.getElem?_append_right (by rw [wcells_len]; omega), wcells_len, Nat.add_sub_cancel_left]; rfl)
        obtain ⟨g, cv, rfl, hg, hgl, hc, hce, hfr⟩ := rowN_cell hrow (by omega)
        have fx := hfr (j * 4 + 2)
        have ex := hce (j * 4 + 2) (.int .i64 (ns[j].r)) (by rw [flat_get ns j 2 ns[j] (by simp [hj]) (by omega)]; rfl)
        generalize ns[j].r = old at ex
        obtain ⟨n, hnn⟩ : ∃ n, ns.length = n := ⟨_, rfl⟩
        obtain ⟨s, hss⟩ : ∃ s, st.length = s := ⟨_, rfl⟩
        rw [hnn] at hj hc hkn hst2 ⊢
        rw [show (keys .nil).length = 0 from rfl, Nat.zero_add] at hk
        simp only [waits] at hk hsl
        rw [hss] at d0 d1 hc2 ⊢
        have hn64 : n < 4611686018427387904 := by omega
        have hs64 : s < 4611686018427387904 := by rw [List.length_cons, hss] at hsl; omega
        have hrowS := rowN_set (j := j * 4 + 2) (u := .int .i64 (n : Int)) hrow
        rw [← flat_setR ns j n (by rw [hnn]; exact hj)] at hrowS
        have hb' : Below w.heap.size w (wr.setCell ⟨g, j * 4 + 2, none⟩ (.int .i64 (n : Int))) := hb.setCell hg _
        have hrowT : (wr.setCell ⟨g, j * 4 + 2, none⟩ (.int .i64 (n : Int))).ownsRow w.heap.size tyW 2 (.slice (some ⟨g2, 0, none⟩) st.length cz) st.length (wcells st) := row_keep hrow3 (fun g' cs hk => by
          obtain ⟨_, _ | ⟨g9, cap9, cur9, hv9, hb9, hg9, _⟩⟩ := hrow
          · rename_i h9; cases h9.1
          · cases hv9
            exact hk.other (blk_ne hk (show hp.Blk wr g tyN cur9.toList by unfold hp.Blk; rw [hg9]) (by decide)) _)
        have heq2 := heq.out
        rw [fin_nil, hnn] at heq2
        simp only at heq2
        clear heq hst hrow2 hrow hrow3 hsl hce hce2 hfr hfr2
        go_wp2_with fail
        obtain ⟨Wc, hWc⟩ : ∃ Wc, wr.setCell ⟨g, j * 4 + 2, none⟩ (.int .i64 (n : Int)) = Wc := ⟨_, rfl⟩
        rw [hWc] at hrowS hb' hrowT ⊢
        clear hWc fx ex d0 d1 hb hc hc2 hgl hg2l hg hg2 hj
        obtain ⟨M, hM⟩ : ∃ M, setR ns j (n : Int) = M := ⟨_, rfl⟩
        have hMl : M.length = n := by rw [← hM, setR_len]; exact hnn
        rw [hM, hnn] at hrowS
        rw [hM] at heq2
        clear hM hnn hn64 hs64
        clear ns
        obtain ⟨ns, hns⟩ : ∃ ns, M = ns := ⟨_, rfl⟩
        subst hns
        have hb := hb'
        clear hb'
        have hrow := hrowS
        clear hrowS
        rw [hss] at hrowT
        have hrow2 := hrowT
        clear hrowT
        rcases t1 with _ | ⟨x, m, l, rr⟩
        · exact absurd rfl hne1
        obtain ⟨h', c, d, he, hh, hkt, hl, hrr⟩ := hn1
        cases he
        clear hne1 hh1
        have e0 : ∀ W', Below w.heap.size w W' → W'.cell? ⟨h, 0, none⟩ = _ := fun W' z => (hkt.below z hh).cell 0
        have e1 : ∀ W', Below w.heap.size w W' → W'.cell? ⟨h, 1, none⟩ = _ := fun W' z => (hkt.below z hh).cell 1
        have e2 : ∀ W', Below w.heap.size w W' → W'.cell? ⟨h, 2, none⟩ = _ := fun W' z => (hkt.below z hh).cell 2
        have e3 : ∀ W', Below w.heap.size w W' → W'.cell? ⟨h, 3, none⟩ = _ := fun W' z => (hkt.below z hh).cell 3
        simp only [List.getElem?_cons_zero, List.getElem?_cons_succ] at e0 e1 e2 e3
        have hst := hst2
        rw [← hMl] at hst
        have hnn := Lib.hid hMl
        have heq : Hid (fin (M ++ shp (.node x m l rr) M.length) st = shp r 0) := Lib.hid (by rw [hMl] at heq2 ⊢; exact heq2)
        replace hss := Lib.hid hss
        clear hMl heq2 hst2
        obtain ⟨av, hav⟩ : ∃ av, (some ⟨g, 0, none⟩ : Option Addr) = av := ⟨_, rfl⟩
        obtain ⟨az, haz⟩ : ∃ az, (some ⟨g2, 0, none⟩ : Option Addr) = az := ⟨_, rfl⟩
        rw [hav] at hrow ⊢
        rw [haz] at hrow2 ⊢
        clear hav haz
        by_cases el : l = .nil
        · subst el
          by_cases er : rr = .nil
          · subst er
            have hnode : Hid (idx .nil (M.length + 1) = (-1)) := Lib.hid (rfl)
            obtain rfl : c = none := hl
            obtain rfl : d = none := hrr
            have hdec := Lib.hid (show (keys .nil).length + waits st < gk ∧ n + 1 + ((keys .nil).length + waits st) = (keys r).length from ⟨by simp only [keys, List.length_append, List.length_cons, List.length_nil] at hk ⊢; omega, by simp only [keys, List.length_append, List.length_cons, List.length_nil] at hk ⊢; omega⟩)
            have hsl2 := hst.out.len
            rw [hss.out] at hsl2
            have hn20 : n + 1 ≤ 2097152 := by simp only [keys, List.length_append, List.length_cons] at hk; omega
            have hs20 : s + 1 ≤ 2097153 := by omega
            obtain ⟨nb, hnb⟩ : ∃ nb, Wc.heap.size = nb := ⟨_, rfl⟩
            have hovn : (Value.slice av n cv).ownBlock ≠ some nb := fun e => by have := (hrow.lt nb e).2; omega
            have hovs : (Value.slice az s cz).ownBlock ≠ some nb := fun e => by have := (hrow2.lt nb e).2; omega
            have hwnb : w.heap.size ≤ nb := by have := hb.size; omega
            replace hnb := Lib.hid hnb
            replace hovn := Lib.hid hovn
            replace hovs := Lib.hid hovs
            have c0 := e0 _ hb
            have c1 := e1 _ hb
            have hh0 := Nat.lt_of_lt_of_le hh hb.size
            clear hk hkn hsl2
            go_wp2_with fail
            go_big_region
            rw [hnb.out]
            obtain ⟨W2, hW2⟩ : ∃ W2, (Wc.alloc (.cells #[.int .i64 x, .int .i64 (-1), .int .i64 (-1), .int .i64 m] tyN)).drew = W2 := ⟨_, rfl⟩
            have hbc : Below Wc.heap.size Wc W2 := by rw [← hW2]; exact ((Below.refl _ _).alloc (Nat.le_refl _) _).drew
            have hN2 : hp.Blk W2 nb tyN [.int .i64 x, .int .i64 (-1), .int .i64 (-1), .int .i64 m] := by rw [← hW2, ← hnb.out]; exact (hp.Blk.new Wc [.int .i64 x, .int .i64 (-1), .int .i64 (-1), .int .i64 m] _).drew
            rw [hW2]
            replace hrow := hp.row_on hrow hbc
            replace hrow2 := hp.row_on hrow2 hbc
            replace hb := hb.trans (hbc.mono hb.size)
            clear hW2 hbc c0 c1 hh0
            have c2 := e2 _ hb
            have c3 := e3 _ hb
            have hh0 := Nat.lt_of_lt_of_le hh hb.size
            have lN := hN2.lt
            have hN3 := hN2
            have hrow3 := hrow
            have hrowB := hrow2
            have hb3 := hb
            have lN3 := lN
            have m0 := hN3.cell 0
            have m1 := hN3.cell 1
            have m2 := hN3.cell 2
            have m3 := hN3.cell 3
            simp only [List.getElem?_cons_zero, List.getElem?_cons_succ] at m0 m1 m2 m3
            clear hrow hrow2 hN2 hb
            go_wp2_with (at_builtin; refine wpList_append_own _ rfl _ _ 38 rfl w.heap.size tyN i1 (.agg #[.int .i64 0, .int .i64 0, .int .i64 0, .int .i64 0]) 4 32 Try.underlying38 hi1 hy0 hy1 hy2 rfl (by decide) _ _ _ rfl (hrow3.alloc _) ⟨W2.heap.size, 0, none⟩ 1 1 [.int .i64 x, .int .i64 (-1), .int .i64 (-1), .int .i64 m] rfl rfl (cell_blk (hp.Blk.new _ _ _)) (by simp [Value.oneCell']) (by unfold maxLen; omega) (by omega) (by have := hb3.size; simp; omega) ?_; intro v' W5 hown' hgrow _; have hb5 := (hb3.alloc hb3.size (.cells #[.int .i64 x, .int .i64 (-1), .int .i64 (-1), .int .i64 m] tyN)).grown hgrow (by have := hb3.size; simp; omega) (fun k hk => (hrow3.lt k hk).1); have c2 := e2 _ hb5; have hh5 := Nat.lt_of_lt_of_le hh hb5.size)
            go_roundg ((keys .nil).length + waits st)
            (case measure => exact hdec.out.1)
            (case rel =>
              have hfl : flat (M ++ [(⟨x, idx .nil (M.length + 1), -1, m⟩ : Nd)]) = flat M ++ [.int .i64 x, .int .i64 (-1), .int .i64 (-1), .int .i64 m] := by
                rw [flat_app, hnode.out]
                rfl
              refine ⟨M ++ [⟨x, idx .nil (M.length + 1), -1, m⟩], .nil, _, st, rfl, rfl, ?_, rfl, ?_, hb5, ?_, ?_, ?_⟩
              · exact Lib.hid (by rw [← fin_one]; exact heq.out)
              · rw [List.length_append, hnn.out]; exact hdec.out.2
              · rw [hfl, List.length_append, hnn.out]; exact hown'
              · rw [hss.out]; exact row_keep hrowB (fun g cs hk => hk.grown (by decide) hrow3 hgrow)
              · exact Lib.hid (hst.out.more (by simp)))
          ·
            have hnode : Hid (idx .nil (M.length + 1) = (-1)) := Lib.hid (rfl)
            obtain rfl : c = none := hl
            obtain ⟨hd, rfl, -⟩ := hrr.some er
            have hdec := Lib.hid (show (keys .nil).length + ((keys rr).length + waits st) < gk ∧ n + 1 + ((keys .nil).length + ((keys rr).length + waits st)) = (keys r).length from ⟨by simp only [keys, List.length_append, List.length_cons, List.length_nil] at hk ⊢; omega, by simp only [keys, List.length_append, List.length_cons, List.length_nil] at hk ⊢; omega⟩)
            have hsl2 := hst.out.len
            rw [hss.out] at hsl2
            have hn20 : n + 1 ≤ 2097152 := by simp only [keys, List.length_append, List.length_cons] at hk; omega
            have hs20 : s + 1 ≤ 2097153 := by omega
            obtain ⟨nb, hnb⟩ : ∃ nb, Wc.heap.size = nb := ⟨_, rfl⟩
            have hovn : (Value.slice av n cv).ownBlock ≠ some nb := fun e => by have := (hrow.lt nb e).2; omega
            have hovs : (Value.slice az s cz).ownBlock ≠ some nb := fun e => by have := (hrow2.lt nb e).2; omega
            have hwnb : w.heap.size ≤ nb := by have := hb.size; omega
            replace hnb := Lib.hid hnb
            replace hovn := Lib.hid hovn
            replace hovs := Lib.hid hovs
            have c0 := e0 _ hb
            have c1 := e1 _ hb
            have hh0 := Nat.lt_of_lt_of_le hh hb.size
            clear hk hkn hsl2
            go_wp2_with fail
            go_big_region
            rw [hnb.out]
            obtain ⟨W2, hW2⟩ : ∃ W2, (Wc.alloc (.cells #[.int .i64 x, .int .i64 (-1), .int .i64 (-1), .int .i64 m] tyN)).drew = W2 := ⟨_, rfl⟩
            have hbc : Below Wc.heap.size Wc W2 := by rw [← hW2]; exact ((Below.refl _ _).alloc (Nat.le_refl _) _).drew
            have hN2 : hp.Blk W2 nb tyN [.int .i64 x, .int .i64 (-1), .int .i64 (-1), .int .i64 m] := by rw [← hW2, ← hnb.out]; exact (hp.Blk.new Wc [.int .i64 x, .int .i64 (-1), .int .i64 (-1), .int .i64 m] _).drew
            rw [hW2]
            replace hrow := hp.row_on hrow hbc
            replace hrow2 := hp.row_on hrow2 hbc
            replace hb := hb.trans (hbc.mono hb.size)
            clear hW2 hbc c0 c1 hh0
            have c2 := e2 _ hb
            have c3 := e3 _ hb
            have hh0 := Nat.lt_of_lt_of_le hh hb.size
            have lN := hN2.lt
            have hN3 := hN2
            have hrow3 := hrow
            have hrowB := hrow2
            have hb3 := hb
            have lN3 := lN
            clear hrow hrow2 hN2 hb
            go_wp2_with (first
              | (at_builtin; refine wpList_append_own _ rfl _ _ 80 rfl w.heap.size tyW i2 (.agg #[.pointer none, .int .i64 0]) 2 16 Try.underlying80 hi2 hz0 hz1 hz2 rfl (by decide) _ _ _ rfl (hrowB.alloc _) ⟨W2.heap.size, 0, none⟩ 1 1 [.pointer (some ⟨hd, 0, none⟩), .int .i64 n] rfl rfl (cell_blk (hp.Blk.new _ _ _)) (by simp [Value.oneCell']) (by unfold maxLen; omega) (by omega) (by have := hb3.size; simp; omega) ?_; intro z' W4 hownB hgrowB _; have hb4 := (hb3.alloc hb3.size (.cells #[.pointer (some ⟨hd, 0, none⟩), .int .i64 n] tyW)).grown hgrowB (by have := hb3.size; simp; omega) (fun k hk => (hrowB.lt k hk).1); have hN4 : hp.Blk W4 nb tyN _ := hN3.grown (by decide) hrowB hgrowB; have hrow4 : W4.ownsRow w.heap.size tyN 4 (.slice av n cv) n (flat M) := row_keep hrow3 (fun g cs hk => hk.grown (by decide) hrowB hgrowB); have k0 := hN4.cell 0; have k1 := hN4.cell 1; have k2 := hN4.cell 2; have k3 := hN4.cell 3; have lN := hN4.lt; simp only [List.getElem?_cons_zero, List.getElem?_cons_succ] at k0 k1 k2 k3)
              | (at_builtin; refine wpList_append_own _ rfl _ _ 38 rfl w.heap.size tyN i1 (.agg #[.int .i64 0, .int .i64 0, .int .i64 0, .int .i64 0]) 4 32 Try.underlying38 hi1 hy0 hy1 hy2 rfl (by decide) _ _ _ rfl (hrow4.alloc _) ⟨W4.heap.size, 0, none⟩ 1 1 [.int .i64 x, .int .i64 (-1), .int .i64 (-1), .int .i64 m] rfl rfl (cell_blk (hp.Blk.new _ _ _)) (by simp [Value.oneCell']) (by unfold maxLen; omega) (by omega) (by have := hb4.size; simp; omega) ?_; intro v' W5 hown' hgrow _; have hb5 := (hb4.alloc hb4.size (.cells #[.int .i64 x, .int .i64 (-1), .int .i64 (-1), .int .i64 m] tyN)).grown hgrow (by have := hb4.size; simp; omega) (fun k hk => (hrow4.lt k hk).1); have c2 := e2 _ hb5; have hh5 := Nat.lt_of_lt_of_le hh hb5.size))
            go_roundg ((keys .nil).length + ((keys rr).length + waits st))
            (case measure => exact hdec.out.1)
            (case rel =>
              have hfl : flat (M ++ [(⟨x, idx .nil (M.length + 1), -1, m⟩ : Nd)]) = flat M ++ [.int .i64 x, .int .i64 (-1), .int .i64 (-1), .int .i64 m] := by
                rw [flat_app, hnode.out]
                rfl
              refine ⟨M ++ [⟨x, idx .nil (M.length + 1), -1, m⟩], .nil, _, (some ⟨hd, 0, none⟩, rr, M.length) :: st, rfl, rfl, ?_, rfl, ?_, hb5, ?_, ?_, ?_⟩
              · exact Lib.hid (((fin_two M x m .nil rr (some ⟨hd, 0, none⟩) st).resolve_right er).symm.trans heq.out)
              · rw [List.length_append, hnn.out]; exact hdec.out.2
              · rw [hfl, List.length_append, hnn.out]; exact hown'
              · rw [wcells_cons, List.length_cons, hss.out, wcell, hnn.out]; exact row_keep hownB (fun g cs hk => hk.grown (by decide) hrow4 hgrow)
              · exact Lib.hid fun y hy => by
                  rcases List.mem_cons.1 hy with rfl | hy
                  · exact ⟨hrr, er, by simp⟩
                  · exact (hst.out.more (by simp)) y hy)
        · by_cases er : rr = .nil
          · subst er
            have hnode : Hid (idx l (M.length + 1) = ((n : Int) + 1)) := Lib.hid (by rw [hnn.out]; exact idx_ne el n)
            obtain ⟨hc, rfl, -⟩ := hl.some el
            obtain rfl : d = none := hrr
            have hdec := Lib.hid (show (keys l).length + waits st < gk ∧ n + 1 + ((keys l).length + waits st) = (keys r).length from ⟨by simp only [keys, List.length_append, List.length_cons, List.length_nil] at hk ⊢; omega, by simp only [keys, List.length_append, List.length_cons, List.length_nil] at hk ⊢; omega⟩)
            have hsl2 := hst.out.len
            rw [hss.out] at hsl2
            have hn20 : n + 1 ≤ 2097152 := by simp only [keys, List.length_append, List.length_cons] at hk; omega
            have hs20 : s + 1 ≤ 2097153 := by omega
            obtain ⟨nb, hnb⟩ : ∃ nb, Wc.heap.size = nb := ⟨_, rfl⟩
            have hovn : (Value.slice av n cv).ownBlock ≠ some nb := fun e => by have := (hrow.lt nb e).2; omega
            have hovs : (Value.slice az s cz).ownBlock ≠ some nb := fun e => by have := (hrow2.lt nb e).2; omega
            have hwnb : w.heap.size ≤ nb := by have := hb.size; omega
            replace hnb := Lib.hid hnb
            replace hovn := Lib.hid hovn
            replace hovs := Lib.hid hovs
            have c0 := e0 _ hb
            have c1 := e1 _ hb
            have hh0 := Nat.lt_of_lt_of_le hh hb.size
            clear hk hkn hsl2
            go_wp2_with fail
            go_big_region
            rw [hnb.out]
            obtain ⟨W2, hW2⟩ : ∃ W2, (Wc.alloc (.cells #[.int .i64 x, .int .i64 (-1), .int .i64 (-1), .int .i64 m] tyN)).drew = W2 := ⟨_, rfl⟩
            have hbc : Below Wc.heap.size Wc W2 := by rw [← hW2]; exact ((Below.refl _ _).alloc (Nat.le_refl _) _).drew
            have hN2 : hp.Blk W2 nb tyN [.int .i64 x, .int .i64 (-1), .int .i64 (-1), .int .i64 m] := by rw [← hW2, ← hnb.out]; exact (hp.Blk.new Wc [.int .i64 x, .int .i64 (-1), .int .i64 (-1), .int .i64 m] _).drew
            rw [hW2]
            replace hrow := hp.row_on hrow hbc
            replace hrow2 := hp.row_on hrow2 hbc
            replace hb := hb.trans (hbc.mono hb.size)
            clear hW2 hbc c0 c1 hh0
            have c2 := e2 _ hb
            have c3 := e3 _ hb
            have hh0 := Nat.lt_of_lt_of_le hh hb.size
            have lN := hN2.lt
            have n1 := hN2.cell 1
            have nf := hN2.free 1
            simp only [List.getElem?_cons_zero, List.getElem?_cons_succ] at n1
            obtain ⟨W3, hW3⟩ : ∃ W3, W2.setCell ⟨nb, 1, none⟩ (.int .i64 ((n : Int) + 1)) = W3 := ⟨_, rfl⟩
            have hN3 : hp.Blk W3 nb tyN [.int .i64 x, .int .i64 ((n : Int) + 1), .int .i64 (-1), .int .i64 m] := by rw [← hW3]; exact hN2.set 1 _
            have hrow3 : W3.ownsRow w.heap.size tyN 4 (.slice av n cv) n (flat M) := by rw [← hW3]; exact row_ne hrow hovn.out
            have hrowB : W3.ownsRow w.heap.size tyW 2 (.slice az s cz) s (wcells st) := by rw [← hW3]; exact row_ne hrow2 hovs.out
            have hb3 : Below w.heap.size w W3 := by rw [← hW3]; exact hb.setCell hwnb _
            have d3 := e3 _ hb3
            have hh3 := Nat.lt_of_lt_of_le hh hb3.size
            have lN3 := hN3.lt
            have m0 := hN3.cell 0
            have m1 := hN3.cell 1
            have m2 := hN3.cell 2
            have m3 := hN3.cell 3
            simp only [List.getElem?_cons_zero, List.getElem?_cons_succ] at m0 m1 m2 m3
            clear hrow hrow2 hN2 hb
            go_wp2_with (at_builtin; refine wpList_append_own _ rfl _ _ 38 rfl w.heap.size tyN i1 (.agg #[.int .i64 0, .int .i64 0, .int .i64 0, .int .i64 0]) 4 32 Try.underlying38 hi1 hy0 hy1 hy2 rfl (by decide) _ _ _ rfl (hrow3.alloc _) ⟨W3.heap.size, 0, none⟩ 1 1 [.int .i64 x, .int .i64 ((n : Int) + 1), .int .i64 (-1), .int .i64 m] rfl rfl (cell_blk (hp.Blk.new _ _ _)) (by simp [Value.oneCell']) (by unfold maxLen; omega) (by omega) (by have := hb3.size; simp; omega) ?_; intro v' W5 hown' hgrow _; have hb5 := (hb3.alloc hb3.size (.cells #[.int .i64 x, .int .i64 ((n : Int) + 1), .int .i64 (-1), .int .i64 m] tyN)).grown hgrow (by have := hb3.size; simp; omega) (fun k hk => (hrow3.lt k hk).1); have c2 := e2 _ hb5; have hh5 := Nat.lt_of_lt_of_le hh hb5.size)
            go_roundg ((keys l).length + waits st)
            (case measure => exact hdec.out.1)
            (case rel =>
              have hfl : flat (M ++ [(⟨x, idx l (M.length + 1), -1, m⟩ : Nd)]) = flat M ++ [.int .i64 x, .int .i64 ((n : Int) + 1), .int .i64 (-1), .int .i64 m] := by
                rw [flat_app, hnode.out]
                rfl
              refine ⟨M ++ [⟨x, idx l (M.length + 1), -1, m⟩], l, _, st, rfl, hl, ?_, rfl, ?_, hb5, ?_, ?_, ?_⟩
              · exact Lib.hid (by rw [← fin_one]; exact heq.out)
              · rw [List.length_append, hnn.out]; exact hdec.out.2
              · rw [hfl, List.length_append, hnn.out]; exact hown'
              · rw [hss.out]; exact row_keep hrowB (fun g cs hk => hk.grown (by decide) hrow3 hgrow)
              · exact Lib.hid (hst.out.more (by simp)))
          ·
            have hnode : Hid (idx l (M.length + 1) = ((n : Int) + 1)) := Lib.hid (by rw [hnn.out]; exact idx_ne el n)
            obtain ⟨hc, rfl, -⟩ := hl.some el
            obtain ⟨hd, rfl, -⟩ := hrr.some er
            have hdec := Lib.hid (show (keys l).length + ((keys rr).length + waits st) < gk ∧ n + 1 + ((keys l).length + ((keys rr).length + waits st)) = (keys r).length from ⟨by simp only [keys, List.length_append, List.length_cons, List.length_nil] at hk ⊢; omega, by simp only [keys, List.length_append, List.length_cons, List.length_nil] at hk ⊢; omega⟩)
            have hsl2 := hst.out.len
            rw [hss.out] at hsl2
            have hn20 : n + 1 ≤ 2097152 := by simp only [keys, List.length_append, List.length_cons] at hk; omega
            have hs20 : s + 1 ≤ 2097153 := by omega
            obtain ⟨nb, hnb⟩ : ∃ nb, Wc.heap.size = nb := ⟨_, rfl⟩
            have hovn : (Value.slice av n cv).ownBlock ≠ some nb := fun e => by have := (hrow.lt nb e).2; omega
            have hovs : (Value.slice az s cz).ownBlock ≠ some nb := fun e => by have := (hrow2.lt nb e).2; omega
            have hwnb : w.heap.size ≤ nb := by have := hb.size; omega
            replace hnb := Lib.hid hnb
            replace hovn := Lib.hid hovn
            replace hovs := Lib.hid hovs
            have c0 := e0 _ hb
            have c1 := e1 _ hb
            have hh0 := Nat.lt_of_lt_of_le hh hb.size
            clear hk hkn hsl2
            go_wp2_with fail
            go_big_region
            rw [hnb.out]
            obtain ⟨W2, hW2⟩ : ∃ W2, (Wc.alloc (.cells #[.int .i64 x, .int .i64 (-1), .int .i64 (-1), .int .i64 m] tyN)).drew = W2 := ⟨_, rfl⟩
            have hbc : Below Wc.heap.size Wc W2 := by rw [← hW2]; exact ((Below.refl _ _).alloc (Nat.le_refl _) _).drew
            have hN2 : hp.Blk W2 nb tyN [.int .i64 x, .int .i64 (-1), .int .i64 (-1), .int .i64 m] := by rw [← hW2, ← hnb.out]; exact (hp.Blk.new Wc [.int .i64 x, .int .i64 (-1), .int .i64 (-1), .int .i64 m] _).drew
            rw [hW2]
            replace hrow := hp.row_on hrow hbc
            replace hrow2 := hp.row_on hrow2 hbc
            replace hb := hb.trans (hbc.mono hb.size)
            clear hW2 hbc c0 c1 hh0
            have c2 := e2 _ hb
            have c3 := e3 _ hb
            have hh0 := Nat.lt_of_lt_of_le hh hb.size
            have lN := hN2.lt
            have n1 := hN2.cell 1
            have nf := hN2.free 1
            simp only [List.getElem?_cons_zero, List.getElem?_cons_succ] at n1
            obtain ⟨W3, hW3⟩ : ∃ W3, W2.setCell ⟨nb, 1, none⟩ (.int .i64 ((n : Int) + 1)) = W3 := ⟨_, rfl⟩
            have hN3 : hp.Blk W3 nb tyN [.int .i64 x, .int .i64 ((n : Int) + 1), .int .i64 (-1), .int .i64 m] := by rw [← hW3]; exact hN2.set 1 _
            have hrow3 : W3.ownsRow w.heap.size tyN 4 (.slice av n cv) n (flat M) := by rw [← hW3]; exact row_ne hrow hovn.out
            have hrowB : W3.ownsRow w.heap.size tyW 2 (.slice az s cz) s (wcells st) := by rw [← hW3]; exact row_ne hrow2 hovs.out
            have hb3 : Below w.heap.size w W3 := by rw [← hW3]; exact hb.setCell hwnb _
            have d3 := e3 _ hb3
            have hh3 := Nat.lt_of_lt_of_le hh hb3.size
            have lN3 := hN3.lt
            clear hrow hrow2 hN2 hb
            go_wp2_with (first
              | (at_builtin; refine wpList_append_own _ rfl _ _ 80 rfl w.heap.size tyW i2 (.agg #[.pointer none, .int .i64 0]) 2 16 Try.underlying80 hi2 hz0 hz1 hz2 rfl (by decide) _ _ _ rfl (hrowB.alloc _) ⟨W3.heap.size, 0, none⟩ 1 1 [.pointer (some ⟨hd, 0, none⟩), .int .i64 n] rfl rfl (cell_blk (hp.Blk.new _ _ _)) (by simp [Value.oneCell']) (by unfold maxLen; omega) (by omega) (by have := hb3.size; simp; omega) ?_; intro z' W4 hownB hgrowB _; have hb4 := (hb3.alloc hb3.size (.cells #[.pointer (some ⟨hd, 0, none⟩), .int .i64 n] tyW)).grown hgrowB (by have := hb3.size; simp; omega) (fun k hk => (hrowB.lt k hk).1); have hN4 : hp.Blk W4 nb tyN _ := hN3.grown (by decide) hrowB hgrowB; have hrow4 : W4.ownsRow w.heap.size tyN 4 (.slice av n cv) n (flat M) := row_keep hrow3 (fun g cs hk => hk.grown (by decide) hrowB hgrowB); have k0 := hN4.cell 0; have k1 := hN4.cell 1; have k2 := hN4.cell 2; have k3 := hN4.cell 3; have lN := hN4.lt; simp only [List.getElem?_cons_zero, List.getElem?_cons_succ] at k0 k1 k2 k3)
              | (at_builtin; refine wpList_append_own _ rfl _ _ 38 rfl w.heap.size tyN i1 (.agg #[.int .i64 0, .int .i64 0, .int .i64 0, .int .i64 0]) 4 32 Try.underlying38 hi1 hy0 hy1 hy2 rfl (by decide) _ _ _ rfl (hrow4.alloc _) ⟨W4.heap.size, 0, none⟩ 1 1 [.int .i64 x, .int .i64 ((n : Int) + 1), .int .i64 (-1), .int .i64 m] rfl rfl (cell_blk (hp.Blk.new _ _ _)) (by simp [Value.oneCell']) (by unfold maxLen; omega) (by omega) (by have := hb4.size; simp; omega) ?_; intro v' W5 hown' hgrow _; have hb5 := (hb4.alloc hb4.size (.cells #[.int .i64 x, .int .i64 ((n : Int) + 1), .int .i64 (-1), .int .i64 m] tyN)).grown hgrow (by have := hb4.size; simp; omega) (fun k hk => (hrow4.lt k hk).1); have c2 := e2 _ hb5; have hh5 := Nat.lt_of_lt_of_le hh hb5.size))
            go_roundg ((keys l).length + ((keys rr).length + waits st))
            (case measure => exact hdec.out.1)
            (case rel =>
              have hfl : flat (M ++ [(⟨x, idx l (M.length + 1), -1, m⟩ : Nd)]) = flat M ++ [.int .i64 x, .int .i64 ((n : Int) + 1), .int .i64 (-1), .int .i64 m] := by
                rw [flat_app, hnode.out]
                rfl
              refine ⟨M ++ [⟨x, idx l (M.length + 1), -1, m⟩], l, _, (some ⟨hd, 0, none⟩, rr, M.length) :: st, rfl, hl, ?_, rfl, ?_, hb5, ?_, ?_, ?_⟩
              · exact Lib.hid (((fin_two M x m l rr (some ⟨hd, 0, none⟩) st).resolve_right er).symm.trans heq.out)
              · rw [List.length_append, hnn.out]; exact hdec.out.2
              · rw [hfl, List.length_append, hnn.out]; exact hown'
              · rw [wcells_cons, List.length_cons, hss.out, wcell, hnn.out]; exact row_keep hownB (fun g cs hk => hk.grown (by decide) hrow4 hgrow)
              · exact Lib.hid fun y hy => by
                  rcases List.mem_cons.1 hy with rfl | hy
                  · exact ⟨hrr, er, by simp⟩
                  · exact (hst.out.more (by simp)) y hy)
    · obtain ⟨h, c, d, rfl, hh, hkt, hl, hrr⟩ := hn
      obtain ⟨av, cv, rfl⟩ := rowN_val hrow
      obtain ⟨az, cz, rfl⟩ := rowN_val hrow2
      have e0 : ∀ W', Below w.heap.size w W' → W'.cell? ⟨h, 0, none⟩ = _ := fun W' z => (hkt.below z hh).cell 0
      have e1 : ∀ W', Below w.heap.size w W' → W'.cell? ⟨h, 1, none⟩ = _ := fun W' z => (hkt.below z hh).cell 1
      have e2 : ∀ W', Below w.heap.size w W' → W'.cell? ⟨h, 2, none⟩ = _ := fun W' z => (hkt.below z hh).cell 2
      have e3 : ∀ W', Below w.heap.size w W' → W'.cell? ⟨h, 3, none⟩ = _ := fun W' z => (hkt.below z hh).cell 3
      simp only [List.getElem?_cons_zero, List.getElem?_cons_succ] at e0 e1 e2 e3
      obtain ⟨n, hnn⟩ : ∃ n, ns.length = n := ⟨_, rfl⟩
      obtain ⟨s, hss⟩ : ∃ s, st.length = s := ⟨_, rfl⟩
      rw [hnn] at hrow hkn ⊢
      rw [hss] at hrow2 ⊢
      replace hnn := Lib.hid hnn
      replace hss := Lib.hid hss
      clear hsl
      obtain ⟨Wc, hWc⟩ : ∃ Wc, wr = Wc := ⟨_, rfl⟩
      rw [hWc] at hrow hrow2 hb ⊢
      clear hWc
      by_cases el : l = .nil
      · subst el
        by_cases er : rr = .nil
        · subst er
          have hnode : Hid (idx .nil (ns.length + 1) = (-1)) := Lib.hid (rfl)
          obtain rfl : c = none := hl
          obtain rfl : d = none := hrr
          have hdec := Lib.hid (show (keys .nil).length + waits st < gk ∧ n + 1 + ((keys .nil).length + waits st) = (keys r).length from ⟨by simp only [keys, List.length_append, List.length_cons, List.length_nil] at hk ⊢; omega, by simp only [keys, List.length_append, List.length_cons, List.length_nil] at hk ⊢; omega⟩)
          have hsl2 := hst.out.len
          rw [hss.out] at hsl2
          have hn20 : n + 1 ≤ 2097152 := by simp only [keys, List.length_append, List.length_cons] at hk; omega
          have hs20 : s + 1 ≤ 2097153 := by omega
          obtain ⟨nb, hnb⟩ : ∃ nb, Wc.heap.size = nb := ⟨_, rfl⟩
          have hovn : (Value.slice av n cv).ownBlock ≠ some nb := fun e => by have := (hrow.lt nb e).2; omega
          have hovs : (Value.slice az s cz).ownBlock ≠ some nb := fun e => by have := (hrow2.lt nb e).2; omega
          have hwnb : w.heap.size ≤ nb := by have := hb.size; omega
          replace hnb := Lib.hid hnb
          replace hovn := Lib.hid hovn
          replace hovs := Lib.hid hovs
          have c0 := e0 _ hb
          have c1 := e1 _ hb
          have hh0 := Nat.lt_of_lt_of_le hh hb.size
          clear hk hkn hsl2
          go_wp2_with fail
          go_big_region
          rw [hnb.out]
          obtain ⟨W2, hW2⟩ : ∃ W2, (Wc.alloc (.cells #[.int .i64 x, .int .i64 (-1), .int .i64 (-1), .int .i64 m] tyN)).drew = W2 := ⟨_, rfl⟩
          have hbc : Below Wc.heap.size Wc W2 := by rw [← hW2]; exact ((Below.refl _ _).alloc (Nat.le_refl _) _).drew
          have hN2 : hp.Blk W2 nb tyN [.int .i64 x, .int .i64 (-1), .int .i64 (-1), .int .i64 m] := by rw [← hW2, ← hnb.out]; exact (hp.Blk.new Wc [.int .i64 x, .int .i64 (-1), .int .i64 (-1), .int .i64 m] _).drew
          rw [hW2]
          replace hrow := hp.row_on hrow hbc
          replace hrow2 := hp.row_on hrow2 hbc
          replace hb := hb.trans (hbc.mono hb.size)
          clear hW2 hbc c0 c1 hh0
          have c2 := e2 _ hb
          have c3 := e3 _ hb
          have hh0 := Nat.lt_of_lt_of_le hh hb.size
          have lN := hN2.lt
          have hN3 := hN2
          have hrow3 := hrow
          have hrowB := hrow2
          have hb3 := hb
          have lN3 := lN
          have m0 := hN3.cell 0
          have m1 := hN3.cell 1
          have m2 := hN3.cell 2
          have m3 := hN3.cell 3
          simp only [List.getElem?_cons_zero, List.getElem?_cons_succ] at m0 m1 m2 m3
          clear hrow hrow2 hN2 hb
          go_wp2_with (at_builtin; refine wpList_append_own _ rfl _ _ 38 rfl w.heap.size tyN i1 (.agg #[.int .i64 0, .int .i64 0, .int .i64 0, .int .i64 0]) 4 32 Try.underlying38 hi1 hy0 hy1 hy2 rfl (by decide) _ _ _ rfl (hrow3.alloc _) ⟨W2.heap.size, 0, none⟩ 1 1 [.int .i64 x, .int .i64 (-1), .int .i64 (-1), .int .i64 m] rfl rfl (cell_blk (hp.Blk.new _ _ _)) (by simp [Value.oneCell']) (by unfold maxLen; omega) (by omega) (by have := hb3.size; simp; omega) ?_; intro v' W5 hown' hgrow _; have hb5 := (hb3.alloc hb3.size (.cells #[.int .i64 x, .int .i64 (-1), .int .i64 (-1), .int .i64 m] tyN)).grown hgrow (by have := hb3.size; simp; omega) (fun k hk => (hrow3.lt k hk).1); have c2 := e2 _ hb5; have hh5 := Nat.lt_of_lt_of_le hh hb5.size)
          go_roundg ((keys .nil).length + waits st)
          (case measure => exact hdec.out.1)
          (case rel =>
            have hfl : flat (ns ++ [(⟨x, idx .nil (ns.length + 1), -1, m⟩ : Nd)]) = flat ns ++ [.int .i64 x, .int .i64 (-1), .int .i64 (-1), .int .i64 m] := by
              rw [flat_app, hnode.out]
              rfl
            refine ⟨ns ++ [⟨x, idx .nil (ns.length + 1), -1, m⟩], .nil, _, st, rfl, rfl, ?_, rfl, ?_, hb5, ?_, ?_, ?_⟩
            · exact Lib.hid (by rw [← fin_one]; exact heq.out)
            · rw [List.length_append, hnn.out]; exact hdec.out.2
            · rw [hfl, List.length_append, hnn.out]; exact hown'
            · rw [hss.out]; exact row_keep hrowB (fun g cs hk => hk.grown (by decide) hrow3 hgrow)
            · exact Lib.hid (hst.out.more (by simp)))
        ·
          have hnode : Hid (idx .nil (ns.length + 1) = (-1)) := Lib.hid (rfl)
          obtain rfl : c = none := hl
          obtain ⟨hd, rfl, -⟩ := hrr.some er
          have hdec := Lib.hid (show (keys .nil).length + ((keys rr).length + waits st) < gk ∧ n + 1 + ((keys .nil).length + ((keys rr).length + waits st)) = (keys r).length from ⟨by simp only [keys, List.length_append, List.length_cons, List.length_nil] at hk ⊢; omega, by simp only [keys, List.length_append, List.length_cons, List.length_nil] at hk ⊢; omega⟩)
          have hsl2 := hst.out.len
          rw [hss.out] at hsl2
          have hn20 : n + 1 ≤ 2097152 := by simp only [keys, List.length_append, List.length_cons] at hk; omega
          have hs20 : s + 1 ≤ 2097153 := by omega
          obtain ⟨nb, hnb⟩ : ∃ nb, Wc.heap.size = nb := ⟨_, rfl⟩
          have hovn : (Value.slice av n cv).ownBlock ≠ some nb := fun e => by have := (hrow.lt nb e).2; omega
          have hovs : (Value.slice az s cz).ownBlock ≠ some nb := fun e => by have := (hrow2.lt nb e).2; omega
          have hwnb : w.heap.size ≤ nb := by have := hb.size; omega
          replace hnb := Lib.hid hnb
          replace hovn := Lib.hid hovn
          replace hovs := Lib.hid hovs
          have c0 := e0 _ hb
          have c1 := e1 _ hb
          have hh0 := Nat.lt_of_lt_of_le hh hb.size
          clear hk hkn hsl2
          go_wp2_with fail
          go_big_region
          rw [hnb.out]
          obtain ⟨W2, hW2⟩ : ∃ W2, (Wc.alloc (.cells #[.int .i64 x, .int .i64 (-1), .int .i64 (-1), .int .i64 m] tyN)).drew = W2 := ⟨_, rfl⟩
          have hbc : Below Wc.heap.size Wc W2 := by rw [← hW2]; exact ((Below.refl _ _).alloc (Nat.le_refl _) _).drew
          have hN2 : hp.Blk W2 nb tyN [.int .i64 x, .int .i64 (-1), .int .i64 (-1), .int .i64 m] := by rw [← hW2, ← hnb.out]; exact (hp.Blk.new Wc [.int .i64 x, .int .i64 (-1), .int .i64 (-1), .int .i64 m] _).drew
          rw [hW2]
          replace hrow := hp.row_on hrow hbc
          replace hrow2 := hp.row_on hrow2 hbc
          replace hb := hb.trans (hbc.mono hb.size)
          clear hW2 hbc c0 c1 hh0
          have c2 := e2 _ hb
          have c3 := e3 _ hb
          have hh0 := Nat.lt_of_lt_of_le hh hb.size
          have lN := hN2.lt
          have hN3 := hN2
          have hrow3 := hrow
          have hrowB := hrow2
          have hb3 := hb
          have lN3 := lN
          clear hrow hrow2 hN2 hb
          go_wp2_with (first
            | (at_builtin; refine wpList_append_own _ rfl _ _ 80 rfl w.heap.size tyW i2 (.agg #[.pointer none, .int .i64 0]) 2 16 Try.underlying80 hi2 hz0 hz1 hz2 rfl (by decide) _ _ _ rfl (hrowB.alloc _) ⟨W2.heap.size, 0, none⟩ 1 1 [.pointer (some ⟨hd, 0, none⟩), .int .i64 n] rfl rfl (cell_blk (hp.Blk.new _ _ _)) (by simp [Value.oneCell']) (by unfold maxLen; omega) (by omega) (by have := hb3.size; simp; omega) ?_; intro z' W4 hownB hgrowB _; have hb4 := (hb3.alloc hb3.size (.cells #[.pointer (some ⟨hd, 0, none⟩), .int .i64 n] tyW)).grown hgrowB (by have := hb3.size; simp; omega) (fun k hk => (hrowB.lt k hk).1); have hN4 : hp.Blk W4 nb tyN _ := hN3.grown (by decide) hrowB hgrowB; have hrow4 : W4.ownsRow w.heap.size tyN 4 (.slice av n cv) n (flat ns) := row_keep hrow3 (fun g cs hk => hk.grown (by decide) hrowB hgrowB); have k0 := hN4.cell 0; have k1 := hN4.cell 1; have k2 := hN4.cell 2; have k3 := hN4.cell 3; have lN := hN4.lt; simp only [List.getElem?_cons_zero, List.getElem?_cons_succ] at k0 k1 k2 k3)
            | (at_builtin; refine wpList_append_own _ rfl _ _ 38 rfl w.heap.size tyN i1 (.agg #[.int .i64 0, .int .i64 0, .int .i64 0, .int .i64 0]) 4 32 Try.underlying38 hi1 hy0 hy1 hy2 rfl (by decide) _ _ _ rfl (hrow4.alloc _) ⟨W4.heap.size, 0, none⟩ 1 1 [.int .i64 x, .int .i64 (-1), .int .i64 (-1), .int .i64 m] rfl rfl (cell_blk (hp.Blk.new _ _ _)) (by simp [Value.oneCell']) (by unfold maxLen; omega) (by omega) (by have := hb4.size; simp; omega) ?_; intro v' W5 hown' hgrow _; have hb5 := (hb4.alloc hb4.size (.cells #[.int .i64 x, .int .i64 (-1), .int .i64 (-1), .int .i64 m] tyN)).grown hgrow (by have := hb4.size; simp; omega) (fun k hk => (hrow4.lt k hk).1); have c2 := e2 _ hb5; have hh5 := Nat.lt_of_lt_of_le hh hb5.size))
          go_roundg ((keys .nil).length + ((keys rr).length + waits st))
          (case measure => exact hdec.out.1)
          (case rel =>
            have hfl : flat (ns ++ [(⟨x, idx .nil (ns.length + 1), -1, m⟩ : Nd)]) = flat ns ++ [.int .i64 x, .int .i64 (-1), .int .i64 (-1), .int .i64 m] := by
              rw [flat_app, hnode.out]
              rfl
            refine ⟨ns ++ [⟨x, idx .nil (ns.length + 1), -1, m⟩], .nil, _, (some ⟨hd, 0, none⟩, rr, ns.length) :: st, rfl, rfl, ?_, rfl, ?_, hb5, ?_, ?_, ?_⟩
            · exact Lib.hid (((fin_two ns x m .nil rr (some ⟨hd, 0, none⟩) st).resolve_right er).symm.trans heq.out)
            · rw [List.length_append, hnn.out]; exact hdec.out.2
            · rw [hfl, List.length_append, hnn.out]; exact hown'
            · rw [wcells_cons, List.length_cons, hss.out, wcell, hnn.out]; exact row_keep hownB (fun g cs hk => hk.grown (by decide) hrow4 hgrow)
            · exact Lib.hid fun y hy => by
                rcases List.mem_cons.1 hy with rfl | hy
                · exact ⟨hrr, er, by simp⟩
                · exact (hst.out.more (by simp)) y hy)
      · by_cases er : rr = .nil
        · subst er
          have hnode : Hid (idx l (ns.length + 1) = ((n : Int) + 1)) := Lib.hid (by rw [hnn.out]; exact idx_ne el n)
          obtain ⟨hc, rfl, -⟩ := hl.some el
          obtain rfl : d = none := hrr
          have hdec := Lib.hid (show (keys l).length + waits st < gk ∧ n + 1 + ((keys l).length + waits st) = (keys r).length from ⟨by simp only [keys, List.length_append, List.length_cons, List.length_nil] at hk ⊢; omega, by simp only [keys, List.length_append, List.length_cons, List.length_nil] at hk ⊢; omega⟩)
          have hsl2 := hst.out.len
          rw [hss.out] at hsl2
          have hn20 : n + 1 ≤ 2097152 := by simp only [keys, List.length_append, List.length_cons] at hk; omega
          have hs20 : s + 1 ≤ 2097153 := by omega
          obtain ⟨nb, hnb⟩ : ∃ nb, Wc.heap.size = nb := ⟨_, rfl⟩
          have hovn : (Value.slice av n cv).ownBlock ≠ some nb := fun e => by have := (hrow.lt nb e).2; omega
          have hovs : (Value.slice az s cz).ownBlock ≠ some nb := fun e => by have := (hrow2.lt nb e).2; omega
          have hwnb : w.heap.size ≤ nb := by have := hb.size; omega
          replace hnb := Lib.hid hnb
          replace hovn := Lib.hid hovn
          replace hovs := Lib.hid hovs
          have c0 := e0 _ hb
          have c1 := e1 _ hb
          have hh0 := Nat.lt_of_lt_of_le hh hb.size
          clear hk hkn hsl2
          go_wp2_with fail
          go_big_region
          rw [hnb.out]
          obtain ⟨W2, hW2⟩ : ∃ W2, (Wc.alloc (.cells #[.int .i64 x, .int .i64 (-1), .int .i64 (-1), .int .i64 m] tyN)).drew = W2 := ⟨_, rfl⟩
          have hbc : Below Wc.heap.size Wc W2 := by rw [← hW2]; exact ((Below.refl _ _).alloc (Nat.le_refl _) _).drew
          have hN2 : hp.Blk W2 nb tyN [.int .i64 x, .int .i64 (-1), .int .i64 (-1), .int .i64 m] := by rw [← hW2, ← hnb.out]; exact (hp.Blk.new Wc [.int .i64 x, .int .i64 (-1), .int .i64 (-1), .int .i64 m] _).drew
          rw [hW2]
          replace hrow := hp.row_on hrow hbc
          replace hrow2 := hp.row_on hrow2 hbc
          replace hb := hb.trans (hbc.mono hb.size)
          clear hW2 hbc c0 c1 hh0
          have c2 := e2 _ hb
          have c3 := e3 _ hb
          have hh0 := Nat.lt_of_lt_of_le hh hb.size
          have lN := hN2.lt
          have n1 := hN2.cell 1
          have nf := hN2.free 1
          simp only [List.getElem?_cons_zero, List.getElem?_cons_succ] at n1
          obtain ⟨W3, hW3⟩ : ∃ W3, W2.setCell ⟨nb, 1, none⟩ (.int .i64 ((n : Int) + 1)) = W3 := ⟨_, rfl⟩
          have hN3 : hp.Blk W3 nb tyN [.int .i64 x, .int .i64 ((n : Int) + 1), .int .i64 (-1), .int .i64 m] := by rw [← hW3]; exact hN2.set 1 _
          have hrow3 : W3.ownsRow w.heap.size tyN 4 (.slice av n cv) n (flat ns) := by rw [← hW3]; exact row_ne hrow hovn.out
          have hrowB : W3.ownsRow w.heap.size tyW 2 (.slice az s cz) s (wcells st) := by rw [← hW3]; exact row_ne hrow2 hovs.out
          have hb3 : Below w.heap.size w W3 := by rw [← hW3]; exact hb.setCell hwnb _
          have d3 := e3 _ hb3
          have hh3 := Nat.lt_of_lt_of_le hh hb3.size
          have lN3 := hN3.lt
          have m0 := hN3.cell 0
          have m1 := hN3.cell 1
          have m2 := hN3.cell 2
          have m3 := hN3.cell 3
          simp only [List.getElem?_cons_zero, List.getElem?_cons_succ] at m0 m1 m2 m3
          clear hrow hrow2 hN2 hb
          go_wp2_with (at_builtin; refine wpList_append_own _ rfl _ _ 38 rfl w.heap.size tyN i1 (.agg #[.int .i64 0, .int .i64 0, .int .i64 0, .int .i64 0]) 4 32 Try.underlying38 hi1 hy0 hy1 hy2 rfl (by decide) _ _ _ rfl (hrow3.alloc _) ⟨W3.heap.size, 0, none⟩ 1 1 [.int .i64 x, .int .i64 ((n : Int) + 1), .int .i64 (-1), .int .i64 m] rfl rfl (cell_blk (hp.Blk.new _ _ _)) (by simp [Value.oneCell']) (by unfold maxLen; omega) (by omega) (by have := hb3.size; simp; omega) ?_; intro v' W5 hown' hgrow _; have hb5 := (hb3.alloc hb3.size (.cells #[.int .i64 x, .int .i64 ((n : Int) + 1), .int .i64 (-1), .int .i64 m] tyN)).grown hgrow (by have := hb3.size; simp; omega) (fun k hk => (hrow3.lt k hk).1); have c2 := e2 _ hb5; have hh5 := Nat.lt_of_lt_of_le hh hb5.size)
          go_roundg ((keys l).length + waits st)
          (case measure => exact hdec.out.1)
          (case rel =>
            have hfl : flat (ns ++ [(⟨x, idx l (ns.length + 1), -1, m⟩ : Nd)]) = flat ns ++ [.int .i64 x, .int .i64 ((n : Int) + 1), .int .i64 (-1), .int .i64 m] := by
              rw [flat_app, hnode.out]
              rfl
            refine ⟨ns ++ [⟨x, idx l (ns.length + 1), -1, m⟩], l, _, st, rfl, hl, ?_, rfl, ?_, hb5, ?_, ?_, ?_⟩
            · exact Lib.hid (by rw [← fin_one]; exact heq.out)
            · rw [List.length_append, hnn.out]; exact hdec.out.2
            · rw [hfl, List.length_append, hnn.out]; exact hown'
            · rw [hss.out]; exact row_keep hrowB (fun g cs hk => hk.grown (by decide) hrow3 hgrow)
            · exact Lib.hid (hst.out.more (by simp)))
        ·
          have hnode : Hid (idx l (ns.length + 1) = ((n : Int) + 1)) := Lib.hid (by rw [hnn.out]; exact idx_ne el n)
          obtain ⟨hc, rfl, -⟩ := hl.some el
          obtain ⟨hd, rfl, -⟩ := hrr.some er
          have hdec := Lib.hid (show (keys l).length + ((keys rr).length + waits st) < gk ∧ n + 1 + ((keys l).length + ((keys rr).length + waits st)) = (keys r).length from ⟨by simp only [keys, List.length_append, List.length_cons, List.length_nil] at hk ⊢; omega, by simp only [keys, List.length_append, List.length_cons, List.length_nil] at hk ⊢; omega⟩)
          have hsl2 := hst.out.len
          rw [hss.out] at hsl2
          have hn20 : n + 1 ≤ 2097152 := by simp only [keys, List.length_append, List.length_cons] at hk; omega
          have hs20 : s + 1 ≤ 2097153 := by omega
          obtain ⟨nb, hnb⟩ : ∃ nb, Wc.heap.size = nb := ⟨_, rfl⟩
          have hovn : (Value.slice av n cv).ownBlock ≠ some nb := fun e => by have := (hrow.lt nb e).2; omega
          have hovs : (Value.slice az s cz).ownBlock ≠ some nb := fun e => by have := (hrow2.lt nb e).2; omega
          have hwnb : w.heap.size ≤ nb := by have := hb.size; omega
          replace hnb := Lib.hid hnb
          replace hovn := Lib.hid hovn
          replace hovs := Lib.hid hovs
          have c0 := e0 _ hb
          have c1 := e1 _ hb
          have hh0 := Nat.lt_of_lt_of_le hh hb.size
          clear hk hkn hsl2
          go_wp2_with fail
          go_big_region
          rw [hnb.out]
          obtain ⟨W2, hW2⟩ : ∃ W2, (Wc.alloc (.cells #[.int .i64 x, .int .i64 (-1), .int .i64 (-1), .int .i64 m] tyN)).drew = W2 := ⟨_, rfl⟩
          have hbc : Below Wc.heap.size Wc W2 := by rw [← hW2]; exact ((Below.refl _ _).alloc (Nat.le_refl _) _).drew
          have hN2 : hp.Blk W2 nb tyN [.int .i64 x, .int .i64 (-1), .int .i64 (-1), .int .i64 m] := by rw [← hW2, ← hnb.out]; exact (hp.Blk.new Wc [.int .i64 x, .int .i64 (-1), .int .i64 (-1), .int .i64 m] _).drew
          rw [hW2]
          replace hrow := hp.row_on hrow hbc
          replace hrow2 := hp.row_on hrow2 hbc
          replace hb := hb.trans (hbc.mono hb.size)
          clear hW2 hbc c0 c1 hh0
          have c2 := e2 _ hb
          have c3 := e3 _ hb
          have hh0 := Nat.lt_of_lt_of_le hh hb.size
          have lN := hN2.lt
          have n1 := hN2.cell 1
          have nf := hN2.free 1
          simp only [List.getElem?_cons_zero, List.getElem?_cons_succ] at n1
          obtain ⟨W3, hW3⟩ : ∃ W3, W2.setCell ⟨nb, 1, none⟩ (.int .i64 ((n : Int) + 1)) = W3 := ⟨_, rfl⟩
          have hN3 : hp.Blk W3 nb tyN [.int .i64 x, .int .i64 ((n : Int) + 1), .int .i64 (-1), .int .i64 m] := by rw [← hW3]; exact hN2.set 1 _
          have hrow3 : W3.ownsRow w.heap.size tyN 4 (.slice av n cv) n (flat ns) := by rw [← hW3]; exact row_ne hrow hovn.out
          have hrowB : W3.ownsRow w.heap.size tyW 2 (.slice az s cz) s (wcells st) := by rw [← hW3]; exact row_ne hrow2 hovs.out
          have hb3 : Below w.heap.size w W3 := by rw [← hW3]; exact hb.setCell hwnb _
          have d3 := e3 _ hb3
          have hh3 := Nat.lt_of_lt_of_le hh hb3.size
          have lN3 := hN3.lt
          clear hrow hrow2 hN2 hb
          go_wp2_with (first
            | (at_builtin; refine wpList_append_own _ rfl _ _ 80 rfl w.heap.size tyW i2 (.agg #[.pointer none, .int .i64 0]) 2 16 Try.underlying80 hi2 hz0 hz1 hz2 rfl (by decide) _ _ _ rfl (hrowB.alloc _) ⟨W3.heap.size, 0, none⟩ 1 1 [.pointer (some ⟨hd, 0, none⟩), .int .i64 n] rfl rfl (cell_blk (hp.Blk.new _ _ _)) (by simp [Value.oneCell']) (by unfold maxLen; omega) (by omega) (by have := hb3.size; simp; omega) ?_; intro z' W4 hownB hgrowB _; have hb4 := (hb3.alloc hb3.size (.cells #[.pointer (some ⟨hd, 0, none⟩), .int .i64 n] tyW)).grown hgrowB (by have := hb3.size; simp; omega) (fun k hk => (hrowB.lt k hk).1); have hN4 : hp.Blk W4 nb tyN _ := hN3.grown (by decide) hrowB hgrowB; have hrow4 : W4.ownsRow w.heap.size tyN 4 (.slice av n cv) n (flat ns) := row_keep hrow3 (fun g cs hk => hk.grown (by decide) hrowB hgrowB); have k0 := hN4.cell 0; have k1 := hN4.cell 1; have k2 := hN4.cell 2; have k3 := hN4.cell 3; have lN := hN4.lt; simp only [List.getElem?_cons_zero, List.getElem?_cons_succ] at k0 k1 k2 k3)
            | (at_builtin; refine wpList_append_own _ rfl _ _ 38 rfl w.heap.size tyN i1 (.agg #[.int .i64 0, .int .i64 0, .int .i64 0, .int .i64 0]) 4 32 Try.underlying38 hi1 hy0 hy1 hy2 rfl (by decide) _ _ _ rfl (hrow4.alloc _) ⟨W4.heap.size, 0, none⟩ 1 1 [.int .i64 x, .int .i64 ((n : Int) + 1), .int .i64 (-1), .int .i64 m] rfl rfl (cell_blk (hp.Blk.new _ _ _)) (by simp [Value.oneCell']) (by unfold maxLen; omega) (by omega) (by have := hb4.size; simp; omega) ?_; intro v' W5 hown' hgrow _; have hb5 := (hb4.alloc hb4.size (.cells #[.int .i64 x, .int .i64 ((n : Int) + 1), .int .i64 (-1), .int .i64 m] tyN)).grown hgrow (by have := hb4.size; simp; omega) (fun k hk => (hrow4.lt k hk).1); have c2 := e2 _ hb5; have hh5 := Nat.lt_of_lt_of_le hh hb5.size))
          go_roundg ((keys l).length + ((keys rr).length + waits st))
          (case measure => exact hdec.out.1)
          (case rel =>
            have hfl : flat (ns ++ [(⟨x, idx l (ns.length + 1), -1, m⟩ : Nd)]) = flat ns ++ [.int .i64 x, .int .i64 ((n : Int) + 1), .int .i64 (-1), .int .i64 m] := by
              rw [flat_app, hnode.out]
              rfl
            refine ⟨ns ++ [⟨x, idx l (ns.length + 1), -1, m⟩], l, _, (some ⟨hd, 0, none⟩, rr, ns.length) :: st, rfl, hl, ?_, rfl, ?_, hb5, ?_, ?_, ?_⟩
            · exact Lib.hid (((fin_two ns x m l rr (some ⟨hd, 0, none⟩) st).resolve_right er).symm.trans heq.out)
            · rw [List.length_append, hnn.out]; exact hdec.out.2
            · rw [hfl, List.length_append, hnn.out]; exact hown'
            · rw [wcells_cons, List.length_cons, hss.out, wcell, hnn.out]; exact row_keep hownB (fun g cs hk => hk.grown (by decide) hrow4 hgrow)
            · exact Lib.hid fun y hy => by
                rcases List.mem_cons.1 hy with rfl | hy
                · exact ⟨hrr, er, by simp⟩
                · exact (hst.out.more (by simp)) y hy)
end Go.Proofs.Ytlaflhnnddfkkaa.sch
