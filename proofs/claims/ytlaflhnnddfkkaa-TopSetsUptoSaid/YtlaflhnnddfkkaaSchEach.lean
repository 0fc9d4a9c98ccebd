/- Package search: Each (with a stack of its own) and Ints. -/
import Derived.Test.YtlaflhnnddfkkaaSchHas
import Derived.Test.YtlaflhnnddfkkaaSame
import Derived.Maps.AppendAt
import Derived.OwnWalk
import Derived.Deep.LoopGhost
namespace Go.Proofs.Ytlaflhnnddfkkaa.sch
open Go Go.RowKit

theorem blk_ne {w : World} {g g' : Nat} {t t' : TypeId} {cs cs' : List Value} (h : hp.Blk w g t cs) (h' : hp.Blk w g' t' cs') (ht : t ≠ t') : g ≠ g' := by
  rintro rfl
  unfold hp.Blk at h h'
  rw [h] at h'
  simp at h'
  exact ht h'.2

/-- what has been collected: a row of the call's own, in a box of its own -/
def Coll (w : World) (B : Nat) (pre : List Int) (W : World) : Prop :=
  Below w.heap.size w W ∧ w.heap.size ≤ B ∧ ∃ v, hp.Blk W B 22 [v] ∧ W.ownsRow w.heap.size 3 1 v pre.length (pre.map (Value.int .i64))

/-- blocks of other kinds stay -/
def Oth (W W' : World) : Prop := ∀ b t cs, t ≠ 3 → t ≠ 22 → hp.Blk W b t cs → hp.Blk W' b t cs

set_option maxHeartbeats 4000000 in
theorem add_coll {w : World} {B : Nat} {pre : List Int} {W : World} (x : Int) (h : Coll w B pre W) (hN : pre.length < 17592186044416) :
    Calls Try.prog 65 #[.int .i64 x, .pointer (some ⟨B, 0, none⟩)] W fun e W' => e = .returned (.tuple #[]) ∧ Coll w B (pre ++ [x]) W' ∧ Oth W W' := by
  obtain ⟨hb, hB, v, hk, hrow⟩ := h
  obtain ⟨i0, hi, hz0, hz1, hz2⟩ := info_parts same.infoInt
  have hd := hk.cell 0
  simp only [List.getElem?_cons_zero] at hd
  go_enter Try.func65, Try.ntmps65
  go_wp2_with (at_builtin; refine wpList_append_own _ rfl _ _ 22 rfl w.heap.size 3 i0 (.int .i64 0) 1 8 Try.underlying22 hi hz0 hz1 hz2 rfl (by decide) _ _ _ rfl (hrow.alloc _) ⟨W.heap.size, 0, none⟩ 1 1 [.int .i64 x] rfl rfl (cell_one_new _ _ _) (by simp [Value.oneCell']) (by unfold maxLen; omega) (by omega) (by have := hb.size; simp; omega) ?_; intro v' w2 hown' hgrow _; (obtain ⟨a', n', c', rfl⟩ : ∃ a n c, v' = .slice a n c := by rcases hown'.2 with ⟨h, _⟩ | ⟨g, cap, cur, h, _⟩ <;> exact ⟨_, _, _, h⟩); have hk2 : hp.Blk w2 B 22 [v] := hk.grown (by decide) hrow hgrow; have c0 := hk2.cell 0; have cf := hk2.free 0; simp only [List.getElem?_cons_zero] at c0)
  go_end0
  refine ⟨rfl, ⟨((hb.alloc hb.size _).grown hgrow (by have := hb.size; simp; omega) (fun k hk => (hrow.lt k hk).1)).setCell hB _, hB, _, hk2.set 0 _, ?_⟩, ?_⟩
  · have := hp.row_set (o := 0) hown' hk2 (by decide) (.slice a' n' c')
    rw [List.length_append]
    simpa using this
  · intro b t cs h1 h2 hbk
    have hb2 : hp.Blk w2 b t cs := hbk.grown h1 hrow hgrow
    exact hb2.other (blk_ne hb2 hk2 h2) _

theorem Coll.kept {w : World} {B : Nat} {pre : List Int} {W W' : World} (h : Coll w B pre W) (hb : Below w.heap.size w W') (hk : ∀ b t cs, t ≠ tyP → hp.Blk W b t cs → hp.Blk W' b t cs) : Coll w B pre W' := by
  obtain ⟨_, hB, v, h1, h2⟩ := h
  refine ⟨hb, hB, v, hk _ _ _ (by decide) h1, ?_⟩
  obtain ⟨g1, g2⟩ := h2
  refine ⟨g1, ?_⟩
  rcases g2 with g2 | ⟨g', cap, cur, hv, hbs, hg, hr⟩
  · exact .inl g2
  · refine .inr ⟨g', cap, cur, hv, hbs, ?_, hr⟩
    have := hk g' 3 cur.toList (by decide) (by unfold hp.Blk; rw [hg])
    unfold hp.Blk at this
    simpa using this

/-- the function value that collects -/
abbrev adder (B : Nat) : Value := .func (.func 65) #[] #[.pointer (some ⟨B, 0, none⟩)]

theorem row_keep {w w' : World} {base n : Nat} {e : TypeId} {v : Value} {xs : List Value} {k : Nat} (h : w.ownsRow base e k v n xs) (hk : ∀ g cs, hp.Blk w g e cs → hp.Blk w' g e cs) : w'.ownsRow base e k v n xs := by
  obtain ⟨h1, h2⟩ := h
  refine ⟨h1, ?_⟩
  rcases h2 with h2 | ⟨g, cap, cur, hv, hb, hg, hr⟩
  · exact .inl h2
  · refine .inr ⟨g, cap, cur, hv, hb, ?_, hr⟩
    have := hk g cur.toList (by unfold hp.Blk; rw [hg])
    unfold hp.Blk at this
    simpa using this
/-- a row's last cell, and the row without it -/
theorem row_last {W : World} {base : Nat} {e : TypeId} {v x : Value} {xs : List Value} (h : W.ownsRow base e 1 v (xs.length + 1) (xs ++ [x])) :
    ∃ g cap, v = .slice (some ⟨g, 0, none⟩) (xs.length + 1) cap ∧ W.cell? ⟨g, xs.length, none⟩ = some x ∧ xs.length + 1 ≤ cap ∧ W.ownsRow base e 1 (.slice (some ⟨g, 0, none⟩) xs.length cap) xs.length xs := by
  obtain ⟨h1, h2⟩ := h
  rcases h2 with ⟨_, h0⟩ | ⟨g, cap, cur, rfl, hb, hg, hnc, hcm, hcs, htk⟩
  · omega
  · rw [Nat.mul_one] at hcs htk
    refine ⟨g, cap, rfl, ?_, hnc, by simp, .inr ⟨g, cap, cur, rfl, hb, hg, by omega, hcm, by omega, ?_⟩⟩
    · have h3 : (cur.toList.take (xs.length + 1))[xs.length]? = (xs ++ [x])[xs.length]? := by rw [htk]
      rw [List.getElem?_take_of_lt (by omega)] at h3
      simp only [World.cell?, hg]
      simpa using h3
    · have h4 : (cur.toList.take (xs.length + 1)).take xs.length = (xs ++ [x]).take xs.length := by rw [htk]
      rw [List.take_take] at h4
      simpa using h4

/-- what waits: pointers to trees, whose left sides are done; the last one first -/
abbrev Wt := List (Option Addr × Tr)
def ptrs (st : Wt) : List Value := st.reverse.map fun p => .pointer p.1
/-- what is told of a tree whose left side is done -/
def after : Tr → List Int
  | .nil => []
  | .node x _ _ r => x :: keys r
def rest (st : Wt) : List Int := st.flatMap fun p => after p.2
theorem rest_cons (p : Option Addr × Tr) (st : Wt) : rest (p :: st) = after p.2 ++ rest st := rfl
theorem ptrs_cons (p : Option Addr × Tr) (st : Wt) : ptrs (p :: st) = ptrs st ++ [.pointer p.1] := by simp [ptrs]
theorem ptrs_len (st : Wt) : (ptrs st).length = st.length := by simp [ptrs]
/-- each is a tree in memory that is not empty -/
def Up (w : World) (st : Wt) : Prop := ∀ q ∈ st, Nod w.heap.size w q.2 q.1 ∧ q.2 ≠ .nil
theorem Up.len {w : World} : ∀ {st : Wt}, Up w st → st.length ≤ (rest st).length
  | [], _ => by simp
  | ⟨p, t⟩ :: st, h => by
    have h1 := Up.len (st := st) fun q hq => h q (by simp [hq])
    have h2 := (h (p, t) (by simp)).2
    rw [rest_cons, List.length_append, List.length_cons]
    cases t with
    | nil => exact absurd rfl h2
    | node x m l r => simp [after]; omega

theorem infoPtr : (Try.prog.info? tyP).map (fun i => (i.zero, i.size, i.bytes)) = some (some (.pointer none), 1, 8) := by kernel_rfl

set_option maxHeartbeats 8000000 in
theorem each_any {w : World} {B : Nat} {r : Tr} {p : Option Addr} {W : World} (hr : Nod w.heap.size w r p) (hS : (keys r).length ≤ 17592186044416) (hC : Coll w B [] W) :
    Calls Try.prog 64 #[.pointer p, adder B] W fun e W' => e = .returned (.tuple #[]) ∧ Coll w B (keys r) W' := by
  obtain ⟨i0, hi, hz0, hz1, hz2⟩ := info_parts infoPtr
  have hbW := hC.1.size
  go_enter Try.func64, Try.ntmps64
  go_wp2_with fail
  go_loopg [0, 4] (keys r).length (fun k u v W' => ∃ (pre : List Int) (t : Tr) (q : Option Addr) (st : Wt), u = .pointer q ∧ Nod w.heap.size w t q ∧ Hid (pre ++ (keys t ++ rest st) = keys r) ∧ k = (keys t).length + (rest st).length ∧ Coll w B pre W' ∧ W'.ownsRow w.heap.size tyP 1 v st.length (ptrs st) ∧ Hid (Up w st))
  case atStart => exact ⟨[], r, p, [], rfl, hr, by show _ = _; simp [rest], by simp [rest], hC, World.ownsRow_nil _ _ _ _, by show Up _ _; simp [Up]⟩
  case round =>
    clear hC hbW hr
    obtain ⟨pre, t, q, st, rfl, hn, heq, hk, hC, hrow, hst⟩ := hrel
    by_cases hem : t = .nil ∧ st = []
    · obtain ⟨rfl, rfl⟩ := hem
      obtain rfl : q = none := hn
      have hd : Coll w B (keys r) wr := by have := heq.out; simp [keys, rest] at this; rw [← this]; exact hC
      obtain ⟨a, c, rfl⟩ : ∃ a c, u4 = .slice a 0 c := by
        rcases hrow.2 with ⟨h, _⟩ | ⟨g, cap, cur, h, _⟩
        · exact ⟨_, _, h⟩
        · exact ⟨_, _, h⟩
      clear heq hk hC hst hrow
      go_wp2_with fail
      go_end0
      exact ⟨rfl, hd⟩
    · have hlen := heq.out
      replace hlen : pre.length + ((keys t).length + (rest st).length) = (keys r).length := by rw [← hlen]; simp
      have hsl := hst.out.len
      obtain ⟨a, c, rfl⟩ : ∃ a c, u4 = .slice a st.length c := by
        rcases hrow.2 with ⟨h, h0⟩ | ⟨g, cap, cur, h, _⟩
        · exact ⟨none, 0, by rw [h, h0]⟩
        · exact ⟨_, _, h⟩
      have hgo : (∃ g, q = some ⟨g, 0, none⟩) ∨ (q = none ∧ 0 < st.length) := by
        cases t with
        | nil =>
          right
          refine ⟨hn, ?_⟩
          cases st with
          | nil => exact absurd ⟨rfl, rfl⟩ hem
          | cons _ _ => simp
        | node x m l r => obtain ⟨g, _, _, e, _⟩ := hn; left; exact ⟨g, e⟩
      have hnem : t ≠ .nil ∨ st ≠ [] := by
        by_cases h : t = .nil
        · exact .inr fun h2 => hem ⟨h, h2⟩
        · exact .inl h
      obtain ⟨S, hS2⟩ : ∃ S, (keys t).length + (rest st).length = S := ⟨_, rfl⟩
      rw [hS2] at hk
      replace hk := hk.symm
      subst hk
      have hS3 : pre.length + S = (keys r).length := by omega
      have hn64 : st.length < 4611686018427387904 := by omega
      clear hem hlen hsl
      rcases hgo with ⟨g, rfl⟩ | ⟨rfl, hpos⟩ <;> (
      go_wp2_with fail
      go_loopg [0, 4] (keys t).length (fun k u v W' => ∃ (t' : Tr) (q' : Option Addr) (st' : Wt), u = .pointer q' ∧ Nod w.heap.size w t' q' ∧ Hid (pre ++ (keys t' ++ rest st') = keys r) ∧ k = (keys t').length ∧ (keys t').length + (rest st').length = S ∧ Coll w B pre W' ∧ W'.ownsRow w.heap.size tyP 1 v st'.length (ptrs st') ∧ Hid (Up w st') ∧ (t' ≠ .nil ∨ st' ≠ []))
      (case atStart => exact ⟨t, _, st, rfl, hn, heq, rfl, hS2, hC, hrow, hst, hnem⟩)
      (case round =>
        clear hn heq hS2 hC hrow hst hnem
        obtain ⟨t, q, st, rfl, hn, heq, hk2, hS2, hC, hrow, hst, hnem⟩ := hrel
        rcases t with _ | ⟨x, m, l, rr⟩
        · obtain rfl : q = none := hn
          rcases st with _ | ⟨⟨qt, tt⟩, st⟩
          · simp at hnem
          obtain ⟨hnt, hne⟩ := hst.out (qt, tt) (List.mem_cons_self ..)
          rcases tt with _ | ⟨x, m, l, rr⟩
          · exact absurd rfl hne
          obtain ⟨h, c', d, rfl, hh, hkt, hl, hrr⟩ := hnt
          have hst2 : Hid (Up w st) := Lib.hid fun y hy => hst.out y (List.mem_cons_of_mem _ hy)
          rw [ptrs_cons, List.length_cons, ← ptrs_len st] at hrow
          obtain ⟨g', cap, rfl, hcell, hcap, hrow3⟩ := row_last hrow
          rw [ptrs_len] at hcell hcap hrow3 ⊢
          have hsl := hst2.out.len
          rw [rest_cons, List.length_append] at hS2
          simp only [keys, after, List.length_nil, List.length_cons] at hS2
          have heq2 : Hid ((pre ++ [x]) ++ (keys rr ++ rest st) = keys r) := Lib.hid (by have := heq.out; rw [rest_cons] at this; simpa [keys, after] using this)
          obtain ⟨n, hnn⟩ : ∃ n, st.length = n := ⟨_, rfl⟩
          rw [hnn] at hcell hcap hrow3 hsl ⊢
          have hn65 : n < 4611686018427387904 := by omega
          have hpre : pre.length < 17592186044416 := by omega
          have hdec := Lib.hid (show (keys rr).length + (rest st).length < S from by omega)
          clear heq hst hne hrow hS2 hk2 hsl hnem
          have hC0 : Coll w B pre wr.drew := hC.kept hC.1.drew (fun b t cs _ hk => hk.drew)
          have hrow4 : wr.drew.ownsRow w.heap.size tyP 1 (.slice (some ⟨g', 0, none⟩) n cap) n (ptrs st) := row_keep hrow3 (fun g cs hk => hk.drew)
          have c0 : ∀ W', Below w.heap.size w W' → W'.cell? ⟨h, 0, none⟩ = _ := fun W' z => (hkt.below z hh).cell 0
          have c3 : ∀ W', Below w.heap.size w W' → W'.cell? ⟨h, 3, none⟩ = _ := fun W' z => (hkt.below z hh).cell 3
          simp only [List.getElem?_cons_zero, List.getElem?_cons_succ] at c0 c3
          have d0 := c0 _ hC.1
          have hh0 := Nat.lt_of_lt_of_le hh hC.1.size
          go_wp2_with fail
          go_big_region
          clear hcell
          go_wp2_with (go_at_call 65; (with_reducible refine (add_coll x hC0 hpre).mono ?_); rintro e w1 ⟨rfl, hC1, hO⟩; have hrow5 : w1.ownsRow w.heap.size tyP 1 (.slice (some ⟨g', 0, none⟩) n cap) n (ptrs st) := (row_keep hrow4 (fun g cs hk => hO g tyP cs (by decide) (by decide) hk)); have e3 := c3 _ hC1.1; have hh1 := Nat.lt_of_lt_of_le hh hC1.1.size; clear d0 c0 c3 hrow4 hO hC0 hC hh0)
          go_roundg ((keys rr).length + (rest st).length)
          (case measure => exact hdec.out)
          (case rel => exact ⟨pre ++ [x], rr, d, st, rfl, hrr, heq2, rfl, hC1, by rw [hnn]; exact hrow5, hst2⟩)
        · obtain ⟨h, c', d, rfl, hh, hkt, hl, hrr⟩ := hn
          have hup : Hid (Up w ((some ⟨h, 0, none⟩, .node x m l rr) :: st)) := Lib.hid fun y hy => by
            rcases List.mem_cons.1 hy with rfl | hy
            · exact ⟨⟨h, c', d, rfl, hh, hkt, hl, hrr⟩, by simp⟩
            · exact hst.out y hy
          have hsl := hst.out.len
          simp only [keys, List.length_append, List.length_cons] at hS2 hk2
          have heq2 : Hid (pre ++ (keys l ++ rest ((some ⟨h, 0, none⟩, .node x m l rr) :: st)) = keys r) := Lib.hid (by have := heq.out; rw [rest_cons]; simpa [keys, after] using this)
          have hS4 : (keys l).length + (rest ((some ⟨h, 0, none⟩, .node x m l rr) :: st)).length = S := by
            rw [rest_cons]
            simp only [after, List.length_append, List.length_cons]
            omega
          have hdec := Lib.hid (show (keys l).length < gk ∧ (keys l).length + (rest ((some ⟨h, 0, none⟩, .node x m l rr) :: st)).length = S from ⟨by omega, hS4⟩)
          obtain ⟨n, hnn⟩ : ∃ n, st.length = n := ⟨_, rfl⟩
          have hn65 : n + 1 ≤ 17592186044416 := by omega
          have c2 : ∀ W', Below w.heap.size w W' → W'.cell? ⟨h, 2, none⟩ = _ := fun W' z => (hkt.below z hh).cell 2
          simp only [List.getElem?_cons_zero, List.getElem?_cons_succ] at c2
          have hh0 := Nat.lt_of_lt_of_le hh hC.1.size
          rw [hnn] at hrow
          clear heq hst hS2 hk2 hsl hnem hrr hS4
          go_wp2_with (at_builtin; refine wpList_append_own _ rfl _ _ 85 rfl w.heap.size tyP i0 (.pointer none) 1 8 Try.underlying85 hi hz0 hz1 hz2 rfl (by decide) _ _ _ rfl (hrow.alloc _) ⟨wr.heap.size, 0, none⟩ 1 1 [.pointer (some ⟨h, 0, none⟩)] rfl rfl (cell_one_new _ _ _) (by simp [Value.oneCell']) (by unfold maxLen; omega) (by omega) (by have := hC.1.size; simp; omega) ?_; intro v' w2 hown' hgrow _; have hb2 := (hC.1.alloc hC.1.size (.cells #[.pointer (some ⟨h, 0, none⟩)] tyP)).grown hgrow (by have := hC.1.size; simp; omega) (fun k hk => (hrow.lt k hk).1); have e2 := c2 _ hb2; have hh1 := Nat.lt_of_lt_of_le hh hb2.size)
          go_roundg (keys l).length
          (case measure => exact hdec.out.1)
          (case rel =>
            refine ⟨l, c', _, rfl, hl, heq2, rfl, hdec.out.2, ?_, ?_, hup, .inr (by simp)⟩
            · exact hC.kept hb2 (fun b t cs ht hk => hk.grown ht hrow hgrow)
            · rw [List.length_cons, hnn, ptrs_cons]
              exact hown')))

set_option maxHeartbeats 4000000 in
theorem tree_ints {t : Tr} {p : Option Addr} {w : World} (ht : Nod w.heap.size w t p) (hS : (keys t).length ≤ 17592186044416) :
    Calls Try.prog 44 #[.pointer p] w fun e w' => (∃ u, e = .returned u ∧ w'.ownsRow w.heap.size 3 1 u (keys t).length ((keys t).map (Value.int .i64))) ∧ Below w.heap.size w w' := by
  have hb0 : Below w.heap.size w (w.alloc (.cells #[.slice none 0 0] 22)) := by
    ((repeat' (first | with_reducible exact Below.refl _ _ | with_reducible apply Below.setCell | with_reducible apply below_drewN | with_reducible apply Below.drew | with_reducible apply Below.alloc | with_reducible refine Below.trans ?_ (Below.mono (by assumption) ?_))) <;> (first | (simp; done) | (simp; omega) | omega))
  have hA := hp.Blk.new w [.slice none 0 0] 22
  have hC0 : Coll w w.heap.size [] (w.alloc (.cells #[.slice none 0 0] 22)) := ⟨hb0, Nat.le_refl _, _, hA, World.ownsRow_nil _ _ _ _⟩
  have hea := each_any (B := w.heap.size) ht hS hC0
  clear hA hb0 hC0
  go_enter Try.func44, Try.ntmps44
  go_wp2_with (go_at_call 64; (with_reducible refine hea.mono ?_); clear hea; (rintro e w3 ⟨rfl, hb3, hB3, v, hk, hrow⟩); (obtain ⟨a', n', c', rfl⟩ : ∃ a n c, v = .slice a n c := by rcases hrow.2 with ⟨h, _⟩ | ⟨g, cap, cur, h, _⟩ <;> exact ⟨_, _, _, h⟩); (have d0 := (hk).cell 0; simp only [List.getElem?_cons_zero] at d0))
  go_ret
  exact ⟨⟨_, rfl, hrow⟩, hb3⟩
end Go.Proofs.Ytlaflhnnddfkkaa.sch
