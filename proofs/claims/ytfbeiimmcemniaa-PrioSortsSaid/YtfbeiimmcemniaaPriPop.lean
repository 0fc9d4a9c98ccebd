/- Package measured: filled, popLeft, popRight. -/
import Derived.Test.YtfbeiimmcemniaaPriAll
namespace Go.Proofs.Ytfbeiimmcemniaa.pri
open Go Go.RowKit

/-- what filled leaves -/
def Filled (i : Lv) : Prop := ∀ {Q : Nat → Prop} (k : Nat) (u v : Value) (q : Option Addr) (l r : List Nd) (w : World) (L : List (Int × Int)), (∀ b, w.heap.size ≤ b → Q b) → Row Q w u l → Row Q w v r → Lev Q w i q → Lv.Ok (k + 1) i → Hts k l → Hts k r → l.length ≤ 4 → r.length ≤ 4 → (i ≠ .nil → 1 ≤ l.length + r.length) →
    flat l ++ i.nums ++ flat r = L → L.length ≤ 4611686018427387904 →
    Calls Try.prog 38 #[u, .pointer q, v] w fun e w' => (∃ x, e = .returned x ∧ IsL Q w' x k L) ∧ Below w.heap.size w w'
def PoppedL (Q : Nat → Prop) (w w' : World) (k : Nat) (Y : List (Int × Int)) (e : Ending) : Prop := ∃ (n : Nd) (pn : Option Addr) (x : Value) (X : List (Int × Int)), e = .returned (.tuple #[.pointer pn, x]) ∧ Nod Q w n pn ∧ Nd.Ht k n ∧ IsL Q w' x k X ∧ n.nums ++ X = Y
def PoppedR (Q : Nat → Prop) (w w' : World) (k : Nat) (Y : List (Int × Int)) (e : Ending) : Prop := ∃ (n : Nd) (pn : Option Addr) (x : Value) (X : List (Int × Int)), e = .returned (.tuple #[.pointer pn, x]) ∧ Nod Q w n pn ∧ Nd.Ht k n ∧ IsL Q w' x k X ∧ X ++ n.nums = Y
/-- a node first, and the others -/
def PopL (t : Lv) : Prop := ∀ {Q : Nat → Prop} (k : Nat) (q : Option Addr) (w : World), (∀ b, w.heap.size ≤ b → Q b) → Lev Q w t q → Lv.Ok k t → t.nums.length ≤ 4611686018427387904 →
    Calls Try.prog 27 #[.pointer q] w fun e w' => PoppedL Q w w' k t.nums e ∧ Below w.heap.size w w'
def PopR (t : Lv) : Prop := ∀ {Q : Nat → Prop} (k : Nat) (q : Option Addr) (w : World), (∀ b, w.heap.size ≤ b → Q b) → Lev Q w t q → Lv.Ok k t → t.nums.length ≤ 4611686018427387904 →
    Calls Try.prog 49 #[.pointer q] w fun e w' => PoppedR Q w w' k t.nums e ∧ Below w.heap.size w w'

theorem deep_l {Q : Nat → Prop} (k : Nat) (u v : Value) (l r : List Nd) (i : Lv) (q : Option Addr) (w : World) (L : List (Int × Int)) (hQ : ∀ b, w.heap.size ≤ b → Q b) (hl : Row Q w u l) (hr : Row Q w v r) (hi : Lev Q w i q) (ho : Lv.Ok (k + 1) i)
    (h1 : 1 ≤ l.length ∧ l.length ≤ 4 ∧ Hts k l) (h3 : 1 ≤ r.length ∧ r.length ≤ 4 ∧ Hts k r) (hL : flat l ++ i.nums ++ flat r = L) (hbd : L.length ≤ 4611686018427387904) :
    Calls Try.prog 43 #[u, .pointer q, v] w fun e w' => (∃ x, e = .returned x ∧ IsL Q w' x k L) ∧ Below w.heap.size w w' :=
  (deep_any u v l r i q w hQ hl hr hi h1.1 (by omega) h3.1 (by omega) (by rw [hL]; exact hbd)).mono fun _ _ ⟨⟨p, e, h⟩, hb⟩ => ⟨⟨_, e, p, _, rfl, h, ⟨h1, h3, ho⟩, hL⟩, hb⟩

set_option maxRecDepth 100000 in
theorem filled_both (i : Lv) {Q : Nat → Prop} (k : Nat) (u v : Value) (q : Option Addr) (l r : List Nd) (w : World) (L : List (Int × Int)) (hQ : ∀ b, w.heap.size ≤ b → Q b) (hl : Row Q w u l) (hr : Row Q w v r) (hi : Lev Q w i q) (ho : Lv.Ok (k + 1) i)
    (h1 : 1 ≤ l.length ∧ l.length ≤ 4 ∧ Hts k l) (h3 : 1 ≤ r.length ∧ r.length ≤ 4 ∧ Hts k r) (hL : flat l ++ i.nums ++ flat r = L) (hbd : L.length ≤ 4611686018427387904) :
    Calls Try.prog 38 #[u, .pointer q, v] w fun e w' => (∃ x, e = .returned x ∧ IsL Q w' x k L) ∧ Below w.heap.size w w' := by
  have D := deep_l k u v l r i q w L hQ hl hr hi ho h1 h3 hL hbd
  obtain ⟨a, c, rfl, -⟩ := hl.cells
  obtain ⟨a', c', rfl, -⟩ := hr.cells
  have p1 : 0 < l.length := by omega
  have p2 : 0 < r.length := by omega
  clear hl hr hi h1 h3 hL
  generalize l.length = n at *
  generalize r.length = m at *
  go_enter Try.func38, Try.ntmps38
  go_wp2_with (go_at_call 43; (with_reducible refine D.mono ?_); clear D; rintro e w1 ⟨⟨u, rfl, hu⟩, hb1⟩)
  go_ret
  exact ⟨⟨_, rfl, hu⟩, hb1⟩

set_option maxRecDepth 100000 in
set_option maxHeartbeats 4000000 in
theorem filled_nil : Filled .nil := by
  intro Q k u v q l r w L hQ hl hr hi ho hl4 hr4 l4 r4 _ hL hbd
  obtain rfl : q = none := hi
  by_cases hb : 1 ≤ l.length ∧ 1 ≤ r.length
  · exact filled_both .nil k u v none l r w L hQ hl hr rfl trivial ⟨hb.1, l4, hl4⟩ ⟨hb.2, r4, hr4⟩ hL hbd
  have hA := fun W (K : Below w.heap.size w W) (s : Nat) (hs : hp.Blk W s 67 [u, v]) => concat2_any s u v l r W (fun b h => hQ b (Nat.le_trans K.size h)) hs (hl.on K) (hr.on K) (by omega)
  have hF := fun W (K : Below w.heap.size w W) (x : Value) (hx : Row Q W x (l ++ r)) => few_any x (l ++ r) k W (fun b h => hQ b (Nat.le_trans K.size h)) hx (hl4.append hr4) (by simp; omega) L (by rw [flat_append, ← hL]; simp [Lv.nums]) hbd
  obtain ⟨a, c, rfl, -⟩ := hl.cells
  obtain ⟨a', c', rfl, -⟩ := hr.cells
  have hz : l.length = 0 ∨ r.length = 0 := by omega
  clear hl hr l4 r4 hl4 hr4 hb hL
  generalize l.length = n at *
  generalize r.length = m at *
  have hS := hA _ ((Below.refl w.heap.size w).alloc (Nat.le_refl _) (.cells #[.slice a n c, .slice a' m c'] 67)) w.heap.size (hp.Blk.new _ _ _)
  generalize l ++ r = lr at *
  clear hA
  replace hF := Lib.hid hF
  rcases hz with rfl | rfl
  · go_enter Try.func38, Try.ntmps38
    go_wp2_with (first
      | (go_at_call 33; (with_reducible refine hS.mono ?_); clear hS; rintro e w1 ⟨⟨x, rfl, hx⟩, hb1⟩; have K1 := ((Below.refl w.heap.size w).alloc (Nat.le_refl _) (.cells #[.slice a 0 c, .slice a' m c'] 67)).trans (hb1.mono (by simp)); have hF1 := hF.out _ K1 _ hx)
      | (go_at_call 48; (with_reducible refine hF1.mono ?_); clear hF1; rintro e w2 ⟨⟨u, rfl, hu⟩, hb2⟩))
    go_ret
    exact ⟨⟨_, rfl, hu⟩, K1.trans (hb2.mono K1.size)⟩
  · by_cases h0 : 0 < n
    · go_enter Try.func38, Try.ntmps38
      go_wp2_with (first
        | (go_at_call 33; (with_reducible refine hS.mono ?_); clear hS; rintro e w1 ⟨⟨x, rfl, hx⟩, hb1⟩; have K1 := ((Below.refl w.heap.size w).alloc (Nat.le_refl _) (.cells #[.slice a n c, .slice a' 0 c'] 67)).trans (hb1.mono (by simp)); have hF1 := hF.out _ K1 _ hx)
        | (go_at_call 48; (with_reducible refine hF1.mono ?_); clear hF1; rintro e w2 ⟨⟨u, rfl, hu⟩, hb2⟩))
      go_ret
      exact ⟨⟨_, rfl, hu⟩, K1.trans (hb2.mono K1.size)⟩
    · obtain rfl : n = 0 := by omega
      go_enter Try.func38, Try.ntmps38
      go_wp2_with (first
        | (go_at_call 33; (with_reducible refine hS.mono ?_); clear hS; rintro e w1 ⟨⟨x, rfl, hx⟩, hb1⟩; have K1 := ((Below.refl w.heap.size w).alloc (Nat.le_refl _) (.cells #[.slice a 0 c, .slice a' 0 c'] 67)).trans (hb1.mono (by simp)); have hF1 := hF.out _ K1 _ hx)
        | (go_at_call 48; (with_reducible refine hF1.mono ?_); clear hF1; rintro e w2 ⟨⟨u, rfl, hu⟩, hb2⟩))
      go_ret
      exact ⟨⟨_, rfl, hu⟩, K1.trans (hb2.mono K1.size)⟩

set_option maxRecDepth 100000 in
set_option maxHeartbeats 4000000 in
theorem filled_pop (t : Lv) (ht : t ≠ .nil) (HL : PopL t) (HR : PopR t) : Filled t := by
  intro Q k u v q l r w L hQ hl hr hi ho hlh hrh l4 r4 hp hL hbd
  by_cases hb : 1 ≤ l.length ∧ 1 ≤ r.length
  · exact filled_both t k u v q l r w L hQ hl hr hi ho ⟨hb.1, l4, hlh⟩ ⟨hb.2, r4, hrh⟩ hL hbd
  have hp' := hp ht
  obtain ⟨gq, _, _, _, rfl, hgq, -⟩ := hi.first ht
  have hlen : t.nums.length ≤ 4611686018427387904 := by rw [← hL] at hbd; simp at hbd; omega
  by_cases h0 : l.length = 0
  · obtain rfl := List.eq_nil_of_length_eq_zero h0
    have P := HL (k + 1) _ w hQ hi ho hlen
    have G : ∀ W (K : Below w.heap.size w W) (n : Nd) (pn px : Option Addr) (x : Value) (X : List (Int × Int)), Nod Q w n pn → Nd.Ht (k + 1) n → IsL Q W x (k + 1) X → n.nums ++ X = t.nums → x = .pointer px → ∀ (z : Value), Row Q W z n.parts →
        Calls Try.prog 38 #[z, .pointer px, v] W fun e w' => (∃ x, e = .returned x ∧ IsL Q w' x k L) ∧ Below W.heap.size W w' := by
      intro W K n pn px x X hn hh hx hX e z hz
      obtain ⟨_, t', e', h1, h2, h3⟩ := hx
      rw [e] at e'
      cases e'
      obtain ⟨n1, n2, n3, n4⟩ := hh.parts
      exact filled_both t' k z v px n.parts r W L (fun b h => hQ b (Nat.le_trans K.size h)) hz (hr.on K) h1 h2 ⟨by omega, by omega, n1⟩ ⟨by simp at hp'; omega, r4, hrh⟩ (by rw [n2, h3, hX, ← hL]; rfl) hbd
    obtain ⟨a, c, rfl, -⟩ := hl.cells
    obtain ⟨a', c', rfl, -⟩ := hr.cells
    generalize r.length = m at *
    replace G := Lib.hid G
    clear hl hr hi hlh hrh hp hp' hL hbd h0 hlen HL HR hb
    go_enter Try.func38, Try.ntmps38
    go_wp2_with (first
      | (go_at_call 27; (with_reducible refine P.mono ?_); clear P; rintro e w1 ⟨⟨n, pn, x, X, rfl, hn, hh, hx, hX⟩, hb1⟩; (obtain ⟨gn, xe, z, rfl, hgn, hB, hz⟩ := (hn.on hb1).blk); have hx0 := hx; (obtain ⟨px, _, rfl, -⟩ := hx0); (obtain ⟨az, nz, cz, rfl⟩ := hz.val); have c6 := hB.cell 4; simp only [List.getElem?_cons_zero, List.getElem?_cons_succ] at c6; have G1 := G.out _ hb1 _ _ _ _ _ hn hh hx hX rfl _ hz)
      | (go_at_call 38; (with_reducible refine G1.mono ?_); clear G1; rintro e w2 ⟨⟨u, rfl, hu⟩, hb2⟩))
    go_ret
    exact ⟨⟨_, rfl, hu⟩, hb1.trans (hb2.mono hb1.size)⟩
  · have hr0 : r.length = 0 := by omega
    obtain rfl := List.eq_nil_of_length_eq_zero hr0
    have P := HR (k + 1) _ w hQ hi ho hlen
    have G : ∀ W (K : Below w.heap.size w W) (n : Nd) (pn px : Option Addr) (x : Value) (X : List (Int × Int)), Nod Q w n pn → Nd.Ht (k + 1) n → IsL Q W x (k + 1) X → X ++ n.nums = t.nums → x = .pointer px → ∀ (z : Value), Row Q W z n.parts →
        Calls Try.prog 43 #[u, .pointer px, z] W fun e w' => (∃ x, e = .returned x ∧ IsL Q w' x k L) ∧ Below W.heap.size W w' := by
      intro W K n pn px x X hn hh hx hX e z hz
      obtain ⟨_, t', e', h1, h2, h3⟩ := hx
      rw [e] at e'
      cases e'
      obtain ⟨n1, n2, n3, n4⟩ := hh.parts
      exact deep_l k u z l n.parts t' px W L (fun b h => hQ b (Nat.le_trans K.size h)) (hl.on K) hz h1 h2 ⟨by omega, l4, hlh⟩ ⟨by omega, by omega, n1⟩ (by rw [n2, h3, List.append_assoc, hX, ← hL]; simp [flat]) hbd
    obtain ⟨a, c, rfl, -⟩ := hl.cells
    obtain ⟨a', c', rfl, -⟩ := hr.cells
    replace G := Lib.hid G
    clear hl hr hi hlh hrh hp hp' hL hbd hlen HL HR hb l4 r4 hr0
    generalize l.length = m at *
    have hmp : 0 < m := by omega
    have hmz : ((m : Int) == 0) = false := beq_false_of_ne (by omega)
    go_enter Try.func38, Try.ntmps38
    go_wp2_with (first
      | (go_at_call 49; (with_reducible refine P.mono ?_); clear P; rintro e w1 ⟨⟨n, pn, x, X, rfl, hn, hh, hx, hX⟩, hb1⟩; (obtain ⟨gn, xe, z, rfl, hgn, hB, hz⟩ := (hn.on hb1).blk); have hx0 := hx; (obtain ⟨px, _, rfl, -⟩ := hx0); (obtain ⟨az, nz, cz, rfl⟩ := hz.val); have c6 := hB.cell 4; simp only [List.getElem?_cons_zero, List.getElem?_cons_succ] at c6; have G1 := G.out _ hb1 _ _ _ _ _ hn hh hx hX rfl _ hz)
      | (go_at_call 43; (with_reducible refine G1.mono ?_); clear G1; rintro e w2 ⟨⟨u, rfl, hu⟩, hb2⟩))
    go_ret
    exact ⟨⟨_, rfl, hu⟩, hb1.trans (hb2.mono hb1.size)⟩

set_option maxRecDepth 100000 in
set_option maxHeartbeats 4000000 in
attribute [-go_sem] sliced in
theorem popL_raw {Q : Nat → Prop} (k g : Nat) (l r : List Nd) (i : Lv) (u v : Value) (q : Option Addr) (w : World) (Y : List (Int × Int)) (F : Filled i) (hQ : ∀ b, w.heap.size ≤ b → Q b) (hk : hp.Blk w g 74 (lcs Y u v q)) (hl : Row Q w u l) (hr : Row Q w v r) (hi : Lev Q w i q) (ho : Lv.Ok (k + 1) i)
    (hlh : Hts k l) (hrh : Hts k r) (l1 : 1 ≤ l.length) (l4 : l.length ≤ 4) (r4 : r.length ≤ 4) (hc : i ≠ .nil → 1 ≤ r.length) (hY : flat l ++ i.nums ++ flat r = Y) (hbd : Y.length ≤ 4611686018427387904) :
    Calls Try.prog 27 #[.pointer (some ⟨g, 0, none⟩)] w fun e w' => PoppedL Q w w' k Y e ∧ Below w.heap.size w w' := by
  obtain ⟨a, c, rfl, -, hcap, hcell⟩ := hl.cells
  obtain ⟨b, off, rfl, -, hb, hcell⟩ := hcell l1
  obtain ⟨n, l', rfl⟩ : ∃ n l', l = n :: l' := by
    cases l with
    | nil => simp at l1
    | cons n l' => exact ⟨n, l', rfl⟩
  obtain ⟨pn, kp, hn⟩ := hcell 0 n rfl
  rw [Nat.add_zero] at kp
  have hF := hl.from (i := 1) (by simp)
  rw [List.drop_succ_cons, List.drop_zero] at hF
  obtain ⟨X, hX⟩ : ∃ X, flat l' ++ i.nums ++ flat r = X := ⟨_, rfl⟩
  have hXY : n.nums ++ X = Y := by rw [← hX, ← hY, flat_cons]; simp
  have H := fun W (K : Below w.heap.size w W) => F k (sliced (some ⟨b, off, none⟩) 1 (n :: l').length c 1) v q l' r W X (fun b h => hQ b (Nat.le_trans K.size h)) (hF.on K) (hr.on K) (hi.on K) ho hlh.tail hrh (by simp at l4; omega) r4 (fun h => by have := hc h; omega) hX (by have := congrArg List.length hXY; simp at this; omega)
  obtain ⟨a', c', rfl, -⟩ := hr.cells
  have hg := hk.lt
  have c5 := hk.cell 2
  have c6 := hk.cell 3
  have c7 := hk.cell 4
  simp only [List.getElem?_cons_zero, List.getElem?_cons_succ] at c5 c6 c7
  have hh := hlh.head
  obtain ⟨m, hm⟩ : ∃ m, (n :: l').length = m := ⟨_, rfl⟩
  have hm1 : 1 ≤ m := by rw [← hm]; exact l1
  rw [hm] at c5 H hcap
  generalize r.length = rn at *
  have hmc : 0 < m := hm1
  clear hl hr hi F hc hlh hrh l4 r4 hY hX hcell hF hk hm ho l1
  go_enter Try.func27, Try.ntmps27
  go_wp2_with fail
  apply rel.region (C := fun w' => Below w.heap.size w w') (X := fun w w' => Below w.heap.size w w') (by kernel_rfl) (by kernel_rfl) (by kernel_rfl) ((Below.refl _ _).drew)
  (apply rel.walk_val; (focus (intro wq hq hf; go_wp2; refine ⟨hq, Below.refl _ _, ?_, rfl⟩; (show rel.slot _ _ = _; simp only [rel.slot_lit, List.getD_cons_succ, List.getD_cons_zero]; (first | done | exact rfl)))); (simp only [rel.put_lit, List.set_cons_succ, List.set_cons_zero]))
  (apply rel.walk_val; (focus (intro wq hq hf; go_wp2; refine ⟨hq, Below.refl _ _, ?_, rfl⟩; (show rel.slot _ _ = _; simp only [rel.slot_lit, List.getD_cons_succ, List.getD_cons_zero]; (first | done | exact rfl)))); (simp only [rel.put_lit, List.set_cons_succ, List.set_cons_zero]))
  (apply rel.walk_val; (focus (intro wq hq hf; go_wp2; refine ⟨hq, Below.refl _ _, ?_, rfl⟩; (show rel.slot _ _ = _; simp only [rel.slot_lit, List.getD_cons_succ, List.getD_cons_zero]; (first | done | exact rfl)))); (simp only [rel.put_lit, List.set_cons_succ, List.set_cons_zero]))
  ((apply rel.walk_val; (focus (intro wq hq hf; (have d0 := (hq.cell (p := ⟨g, 2, none⟩) hg).trans c5); go_wp2; refine ⟨hq, Below.refl _ _, ?_, rfl⟩; (show rel.slot _ _ = _; simp only [rel.slot_lit, List.getD_cons_succ, List.getD_cons_zero]; (first | done | exact rfl)))); (simp only [rel.put_lit, List.set_cons_succ, List.set_cons_zero])))
  (apply rel.walk_val; (focus (intro wq hq hf; go_wp2; refine ⟨hq, Below.refl _ _, ?_, rfl⟩; (show rel.slot _ _ = _; simp only [rel.slot_lit, List.getD_cons_succ, List.getD_cons_zero]; (first | done | exact rfl)))); (simp only [rel.put_lit, List.set_cons_succ, List.set_cons_zero]))
  ((apply rel.walk_val; (focus (intro wq hq hf; (have d0 := (hq.cell (p := ⟨b, off, none⟩) hb).trans kp); go_wp2; refine ⟨hq, Below.refl _ _, ?_, rfl⟩; (show rel.slot _ _ = _; simp only [rel.slot_lit, List.getD_cons_succ, List.getD_cons_zero]; (first | done | exact rfl)))); (simp only [rel.put_lit, List.set_cons_succ, List.set_cons_zero])))
  (apply rel.walk_val; (focus (intro wq hq hf; go_wp2; refine ⟨hq, Below.refl _ _, ?_, rfl⟩; (show rel.slot _ _ = _; simp only [rel.slot_lit, List.getD_cons_succ, List.getD_cons_zero]; (first | done | exact rfl)))); (simp only [rel.put_lit, List.set_cons_succ, List.set_cons_zero]))
  (apply rel.walk_val; (focus (intro wq hq hf; go_wp2; refine ⟨hq, Below.refl _ _, ?_, rfl⟩; (show rel.slot _ _ = _; simp only [rel.slot_lit, List.getD_cons_succ, List.getD_cons_zero]; (first | done | exact rfl)))); (simp only [rel.put_lit, List.set_cons_succ, List.set_cons_zero]))
  (apply rel.walk_val; (focus (intro wq hq hf; go_wp2; refine ⟨hq, Below.refl _ _, ?_, rfl⟩; (show rel.slot _ _ = _; simp only [rel.slot_lit, List.getD_cons_succ, List.getD_cons_zero]; (first | done | exact rfl)))); (simp only [rel.put_lit, List.set_cons_succ, List.set_cons_zero]))
  ((apply rel.walk_val; (focus (intro wq hq hf; (have d0 := (hq.cell (p := ⟨g, 2, none⟩) hg).trans c5); go_wp2; refine ⟨hq, Below.refl _ _, ?_, rfl⟩; (show rel.slot _ _ = _; simp only [rel.slot_lit, List.getD_cons_succ, List.getD_cons_zero]; (first | done | exact rfl)))); (simp only [rel.put_lit, List.set_cons_succ, List.set_cons_zero])))
  (apply rel.walk_val; (focus (intro wq hq hf; go_wp2; refine ⟨hq, Below.refl _ _, ?_, rfl⟩; (show rel.slot _ _ = _; simp only [rel.slot_lit, List.getD_cons_succ, List.getD_cons_zero]; (first | done | exact rfl)))); (simp only [rel.put_lit, List.set_cons_succ, List.set_cons_zero]))
  (apply rel.walk_val; (focus (intro wq hq hf; go_wp2; refine ⟨hq, Below.refl _ _, ?_, rfl⟩; (show rel.slot _ _ = _; simp only [rel.slot_lit, List.getD_cons_succ, List.getD_cons_zero]; (first | done | exact rfl)))); (simp only [rel.put_lit, List.set_cons_succ, List.set_cons_zero]))
  (apply rel.walk_val; (focus (intro wq hq hf; go_wp2; refine ⟨hq, Below.refl _ _, ?_, rfl⟩; (show rel.slot _ _ = _; simp only [rel.slot_lit, List.getD_cons_succ, List.getD_cons_zero]; (first | done | exact rfl)))); (simp only [rel.put_lit, List.set_cons_succ, List.set_cons_zero]))
  (apply rel.walk_val; (focus (intro wq hq hf; go_wp2; refine ⟨hq, Below.refl _ _, ?_, rfl⟩; (show rel.slot _ _ = _; simp only [rel.slot_lit, List.getD_cons_succ, List.getD_cons_zero]; (first | done | exact rfl)))); (simp only [rel.put_lit, List.set_cons_succ, List.set_cons_zero]))
  ((apply rel.walk_val; (focus (intro wq hq hf; (have d0 := (hq.cell (p := ⟨g, 4, none⟩) hg).trans c7); go_wp2; refine ⟨hq, Below.refl _ _, ?_, rfl⟩; (show rel.slot _ _ = _; simp only [rel.slot_lit, List.getD_cons_succ, List.getD_cons_zero]; (first | done | exact rfl)))); (simp only [rel.put_lit, List.set_cons_succ, List.set_cons_zero])))
  (apply rel.walk_val; (focus (intro wq hq hf; go_wp2; refine ⟨hq, Below.refl _ _, ?_, rfl⟩; (show rel.slot _ _ = _; simp only [rel.slot_lit, List.getD_cons_succ, List.getD_cons_zero]; (first | done | exact rfl)))); (simp only [rel.put_lit, List.set_cons_succ, List.set_cons_zero]))
  (apply rel.walk_val; (focus (intro wq hq hf; go_wp2; refine ⟨hq, Below.refl _ _, ?_, rfl⟩; (show rel.slot _ _ = _; simp only [rel.slot_lit, List.getD_cons_succ, List.getD_cons_zero]; (first | done | exact rfl)))); (simp only [rel.put_lit, List.set_cons_succ, List.set_cons_zero]))
  (apply rel.walk_val; (focus (intro wq hq hf; go_wp2; refine ⟨hq, Below.refl _ _, ?_, rfl⟩; (show rel.slot _ _ = _; simp only [rel.slot_lit, List.getD_cons_succ, List.getD_cons_zero]; (first | done | exact rfl)))); (simp only [rel.put_lit, List.set_cons_succ, List.set_cons_zero]))
  ((apply rel.walk_val; (focus (intro wq hq hf; (have d0 := (hq.cell (p := ⟨g, 3, none⟩) hg).trans c6); go_wp2; refine ⟨hq, Below.refl _ _, ?_, rfl⟩; (show rel.slot _ _ = _; simp only [rel.slot_lit, List.getD_cons_succ, List.getD_cons_zero]; (first | done | exact rfl)))); (simp only [rel.put_lit, List.set_cons_succ, List.set_cons_zero])))
  (apply rel.walk_rel (fun u w' => pri.IsL Q w' u (k) (X)) ⟨_, rfl⟩ (fun u w1 w2 h1 h2 => h2.on h1); (focus (intro wq hq hf; go_wp2_with (go_at_call 38; with_reducible refine (H _ hq).mono ?_; rintro e w'' ⟨⟨u, rfl, hu⟩, hb⟩); refine ⟨hq.trans (hb.mono hq.size), hb, ?_, rfl⟩; (show pri.IsL _ _ (rel.slot _ _) _ _; simp only [rel.slot_lit, List.getD_cons_succ, List.getD_cons_zero]; exact hu))); (intro u wu _ hu; obtain ⟨pu, t_pu, rfl, -⟩ := hu; (simp only [rel.put_lit, List.set_cons_succ, List.set_cons_zero])))
  (apply rel.walk_val; (focus (intro wq hq hf; go_wp2; refine ⟨hq, Below.refl _ _, ?_, rfl⟩; (show rel.slot _ _ = _; simp only [rel.slot_lit, List.getD_cons_succ, List.getD_cons_zero]; (first | done | exact rfl)))); (simp only [rel.put_lit, List.set_cons_succ, List.set_cons_zero]))
  (apply rel.walk_rel (fun u w' => pri.IsL Q w' u (k) (X)) ⟨_, rfl⟩ (fun u w1 w2 h1 h2 => h2.on h1); (focus (intro wq hq hf; have h0 := hf.get 0 rfl rfl; go_wp2; refine ⟨hq, Below.refl _ _, ?_, rfl⟩; (show pri.IsL _ _ (rel.slot _ _) _ _; simp only [rel.slot_lit, List.getD_cons_succ, List.getD_cons_zero]; exact h0))); (intro u wu _ hu; obtain ⟨pz, t_pz, rfl, -⟩ := hu; (simp only [rel.put_lit, List.set_cons_succ, List.set_cons_zero])))
  (refine rel.walk_nil ?_; intro w9 K9 hF; have hu9 := hF _ (List.mem_cons_self ..); clear hF)
  go_wp2
  go_ret2
  exact ⟨⟨n, pn, _, X, rfl, hn, hh, hu9, hXY⟩, K9⟩

theorem popL_one (y : Nd) : PopL (.one y) := by
  intro Q k q w hQ h ho hbd
  obtain ⟨g, v, rfl, -, hk, hr⟩ := h
  have := popL_raw k g [y] [] .nil v (.slice none 0 0) none w y.nums filled_nil hQ hk hr (Row.nil _ _) rfl trivial (Hts.one ho) (Hts.nil _) (by simp) (by simp) (by simp) (fun h => (h rfl).elim) (by simp [flat, Lv.nums]) hbd
  exact this
theorem popL_deep (l r : List Nd) (i : Lv) (F : Filled i) : PopL (.deep l i r) := by
  intro Q k q w hQ h ho hbd
  obtain ⟨g, u, v, q, rfl, -, hk, hl, hr, hi⟩ := h
  obtain ⟨⟨l1, l4, lh⟩, ⟨r1, r4, rh⟩, oi⟩ := ho
  exact popL_raw k g l r i u v q w _ F hQ hk hl hr hi oi lh rh l1 l4 r4 (fun _ => r1) rfl hbd

set_option maxRecDepth 100000 in
theorem popR_one (y : Nd) : PopR (.one y) := by
  intro Q k q w hQ h ho hbd
  have S := isSingle_one h
  obtain ⟨g, v, rfl, -, hk, hr⟩ := h
  obtain ⟨a, c, rfl, -, -, hcell⟩ := hr.cells
  obtain ⟨b, off, rfl, -, hb, hcell⟩ := hcell (by simp)
  obtain ⟨pn, kp, hn⟩ := hcell 0 y rfl
  rw [Nat.add_zero] at kp
  have hg := hk.lt
  have c5 := hk.cell 2
  simp only [List.getElem?_cons_zero, List.getElem?_cons_succ] at c5
  clear hr hk hcell hbd
  go_enter Try.func49, Try.ntmps49
  go_wp2_with (go_at_call 41; (with_reducible refine S.mono ?_); clear S; rintro e w1 ⟨rfl, rfl⟩)
  go_ret2
  exact ⟨⟨y, pn, _, [], rfl, hn, ho, IsL.nil Q w k, by simp [Lv.nums]⟩, Below.refl _ _⟩

set_option maxRecDepth 100000 in
set_option maxHeartbeats 4000000 in
attribute [-go_sem] sliced in
theorem popR_deep (l r : List Nd) (i : Lv) (F : Filled i) : PopR (.deep l i r) := by
  intro Q k q w hQ h ho hbd
  obtain ⟨⟨l1, l4, lh⟩, ⟨r1, r4, rh⟩, oi⟩ := ho
  have S := isSingle_deep h r1
  obtain ⟨g, u, v, q, rfl, -, hk, hl, hr, hi⟩ := h
  obtain ⟨a, c, rfl, -, hcap, hcell⟩ := hr.cells
  obtain ⟨b, off, rfl, -, hb, hcell⟩ := hcell r1
  obtain ⟨r', y, rfl⟩ : ∃ r' y, r = r' ++ [y] := by
    rcases List.eq_nil_or_concat r with e | ⟨r', y0, e⟩
    · subst e; simp at r1
    · exact ⟨r', y0, by rw [e, List.concat_eq_append]⟩
  obtain ⟨m, hm⟩ : ∃ m, r'.length = m := ⟨_, rfl⟩
  have hm1 : (r' ++ [y]).length = m + 1 := by simp [hm]
  obtain ⟨pn, kp, hn⟩ := hcell m y (by rw [← hm]; simp)
  have hF := hr.to (j := m) (by omega)
  rw [show (r' ++ [y]).take m = r' by rw [← hm]; simp] at hF
  obtain ⟨X, hX⟩ : ∃ X, flat l ++ i.nums ++ flat r' = X := ⟨_, rfl⟩
  obtain ⟨Y, hY⟩ : ∃ Y, (Lv.deep l i (r' ++ [y])).nums = Y := ⟨_, rfl⟩
  have hXY : X ++ y.nums = Y := by rw [← hX, ← hY]; simp [Lv.nums, flat]
  have rh' : Hts k r' := fun z hz => rh z (List.mem_append_left _ hz)
  have hh : Nd.Ht k y := rh y (by simp)
  rw [hY] at hbd ⊢
  rw [hm1] at r4 hcap
  have H := fun W (K : Below w.heap.size w W) => F k u (sliced (some ⟨b, off, none⟩) 0 m c 1) q l r' W X (fun b h => hQ b (Nat.le_trans K.size h)) (hl.on K) (hF.on K) (hi.on K) oi lh rh' l4 (by omega) (fun h => by omega) hX (by have := congrArg List.length hXY; simp at this; omega)
  obtain ⟨a', c', rfl, -⟩ := hl.cells
  have hg := hk.lt
  have c5 := hk.cell 2
  have c6 := hk.cell 3
  have c7 := hk.cell 4
  simp only [List.getElem?_cons_zero, List.getElem?_cons_succ] at c5 c6 c7
  rw [hm1] at c6
  have hmc : m ≤ c := by omega
  generalize l.length = ln at *
  clear hl hr hi F rh rh' lh l4 hX hY hcell hF hk hm oi l1 hm1 r1
  go_enter Try.func49, Try.ntmps49
  go_wp2_with (go_at_call 41; (with_reducible refine S.mono ?_); clear S; rintro e w1 ⟨rfl, rfl⟩)
  apply rel.region (C := fun w' => Below w.heap.size w w') (X := fun w w' => Below w.heap.size w w') (by kernel_rfl) (by kernel_rfl) (by kernel_rfl) ((Below.refl _ _).drew)
  (apply rel.walk_val; (focus (intro wq hq hf; go_wp2; refine ⟨hq, Below.refl _ _, ?_, rfl⟩; (show rel.slot _ _ = _; simp only [rel.slot_lit, List.getD_cons_succ, List.getD_cons_zero]; (first | done | exact rfl)))); (simp only [rel.put_lit, List.set_cons_succ, List.set_cons_zero]))
  (apply rel.walk_val; (focus (intro wq hq hf; go_wp2; refine ⟨hq, Below.refl _ _, ?_, rfl⟩; (show rel.slot _ _ = _; simp only [rel.slot_lit, List.getD_cons_succ, List.getD_cons_zero]; (first | done | exact rfl)))); (simp only [rel.put_lit, List.set_cons_succ, List.set_cons_zero]))
  (apply rel.walk_val; (focus (intro wq hq hf; go_wp2; refine ⟨hq, Below.refl _ _, ?_, rfl⟩; (show rel.slot _ _ = _; simp only [rel.slot_lit, List.getD_cons_succ, List.getD_cons_zero]; (first | done | exact rfl)))); (simp only [rel.put_lit, List.set_cons_succ, List.set_cons_zero]))
  ((apply rel.walk_val; (focus (intro wq hq hf; (have d0 := (hq.cell (p := ⟨g, 3, none⟩) hg).trans c6); go_wp2; refine ⟨hq, Below.refl _ _, ?_, rfl⟩; (show rel.slot _ _ = _; simp only [rel.slot_lit, List.getD_cons_succ, List.getD_cons_zero]; (first | done | exact rfl)))); (simp only [rel.put_lit, List.set_cons_succ, List.set_cons_zero])))
  (apply rel.walk_val; (focus (intro wq hq hf; go_wp2; refine ⟨hq, Below.refl _ _, ?_, rfl⟩; (show rel.slot _ _ = _; simp only [rel.slot_lit, List.getD_cons_succ, List.getD_cons_zero]; (first | done | exact rfl)))); (simp only [rel.put_lit, List.set_cons_succ, List.set_cons_zero]))
  (apply rel.walk_val; (focus (intro wq hq hf; go_wp2; refine ⟨hq, Below.refl _ _, ?_, rfl⟩; (show rel.slot _ _ = _; simp only [rel.slot_lit, List.getD_cons_succ, List.getD_cons_zero]; (first | done | exact rfl)))); (simp only [rel.put_lit, List.set_cons_succ, List.set_cons_zero]))
  ((apply rel.walk_val; (focus (intro wq hq hf; (have d0 := (hq.cell (p := ⟨b, off + m, none⟩) hb).trans kp); go_wp2; refine ⟨hq, Below.refl _ _, ?_, rfl⟩; (show rel.slot _ _ = _; simp only [rel.slot_lit, List.getD_cons_succ, List.getD_cons_zero]; (first | done | exact rfl)))); (simp only [rel.put_lit, List.set_cons_succ, List.set_cons_zero])))
  (apply rel.walk_val; (focus (intro wq hq hf; go_wp2; refine ⟨hq, Below.refl _ _, ?_, rfl⟩; (show rel.slot _ _ = _; simp only [rel.slot_lit, List.getD_cons_succ, List.getD_cons_zero]; (first | done | exact rfl)))); (simp only [rel.put_lit, List.set_cons_succ, List.set_cons_zero]))
  (apply rel.walk_val; (focus (intro wq hq hf; go_wp2; refine ⟨hq, Below.refl _ _, ?_, rfl⟩; (show rel.slot _ _ = _; simp only [rel.slot_lit, List.getD_cons_succ, List.getD_cons_zero]; (first | done | exact rfl)))); (simp only [rel.put_lit, List.set_cons_succ, List.set_cons_zero]))
  (apply rel.walk_val; (focus (intro wq hq hf; go_wp2; refine ⟨hq, Below.refl _ _, ?_, rfl⟩; (show rel.slot _ _ = _; simp only [rel.slot_lit, List.getD_cons_succ, List.getD_cons_zero]; (first | done | exact rfl)))); (simp only [rel.put_lit, List.set_cons_succ, List.set_cons_zero]))
  ((apply rel.walk_val; (focus (intro wq hq hf; (have d0 := (hq.cell (p := ⟨g, 2, none⟩) hg).trans c5); go_wp2; refine ⟨hq, Below.refl _ _, ?_, rfl⟩; (show rel.slot _ _ = _; simp only [rel.slot_lit, List.getD_cons_succ, List.getD_cons_zero]; (first | done | exact rfl)))); (simp only [rel.put_lit, List.set_cons_succ, List.set_cons_zero])))
  (apply rel.walk_val; (focus (intro wq hq hf; go_wp2; refine ⟨hq, Below.refl _ _, ?_, rfl⟩; (show rel.slot _ _ = _; simp only [rel.slot_lit, List.getD_cons_succ, List.getD_cons_zero]; (first | done | exact rfl)))); (simp only [rel.put_lit, List.set_cons_succ, List.set_cons_zero]))
  (apply rel.walk_val; (focus (intro wq hq hf; go_wp2; refine ⟨hq, Below.refl _ _, ?_, rfl⟩; (show rel.slot _ _ = _; simp only [rel.slot_lit, List.getD_cons_succ, List.getD_cons_zero]; (first | done | exact rfl)))); (simp only [rel.put_lit, List.set_cons_succ, List.set_cons_zero]))
  (apply rel.walk_val; (focus (intro wq hq hf; go_wp2; refine ⟨hq, Below.refl _ _, ?_, rfl⟩; (show rel.slot _ _ = _; simp only [rel.slot_lit, List.getD_cons_succ, List.getD_cons_zero]; (first | done | exact rfl)))); (simp only [rel.put_lit, List.set_cons_succ, List.set_cons_zero]))
  ((apply rel.walk_val; (focus (intro wq hq hf; (have d0 := (hq.cell (p := ⟨g, 4, none⟩) hg).trans c7); go_wp2; refine ⟨hq, Below.refl _ _, ?_, rfl⟩; (show rel.slot _ _ = _; simp only [rel.slot_lit, List.getD_cons_succ, List.getD_cons_zero]; (first | done | exact rfl)))); (simp only [rel.put_lit, List.set_cons_succ, List.set_cons_zero])))
  (apply rel.walk_val; (focus (intro wq hq hf; go_wp2; refine ⟨hq, Below.refl _ _, ?_, rfl⟩; (show rel.slot _ _ = _; simp only [rel.slot_lit, List.getD_cons_succ, List.getD_cons_zero]; (first | done | exact rfl)))); (simp only [rel.put_lit, List.set_cons_succ, List.set_cons_zero]))
  (apply rel.walk_val; (focus (intro wq hq hf; go_wp2; refine ⟨hq, Below.refl _ _, ?_, rfl⟩; (show rel.slot _ _ = _; simp only [rel.slot_lit, List.getD_cons_succ, List.getD_cons_zero]; (first | done | exact rfl)))); (simp only [rel.put_lit, List.set_cons_succ, List.set_cons_zero]))
  (apply rel.walk_val; (focus (intro wq hq hf; go_wp2; refine ⟨hq, Below.refl _ _, ?_, rfl⟩; (show rel.slot _ _ = _; simp only [rel.slot_lit, List.getD_cons_succ, List.getD_cons_zero]; (first | done | exact rfl)))); (simp only [rel.put_lit, List.set_cons_succ, List.set_cons_zero]))
  ((apply rel.walk_val; (focus (intro wq hq hf; (have d0 := (hq.cell (p := ⟨g, 3, none⟩) hg).trans c6); go_wp2; refine ⟨hq, Below.refl _ _, ?_, rfl⟩; (show rel.slot _ _ = _; simp only [rel.slot_lit, List.getD_cons_succ, List.getD_cons_zero]; (first | done | exact rfl)))); (simp only [rel.put_lit, List.set_cons_succ, List.set_cons_zero])))
  (apply rel.walk_val; (focus (intro wq hq hf; go_wp2; refine ⟨hq, Below.refl _ _, ?_, rfl⟩; (show rel.slot _ _ = _; simp only [rel.slot_lit, List.getD_cons_succ, List.getD_cons_zero]; (first | done | exact rfl)))); (simp only [rel.put_lit, List.set_cons_succ, List.set_cons_zero]))
  (apply rel.walk_val; (focus (intro wq hq hf; go_wp2; refine ⟨hq, Below.refl _ _, ?_, rfl⟩; (show rel.slot _ _ = _; simp only [rel.slot_lit, List.getD_cons_succ, List.getD_cons_zero]; (first | done | exact rfl)))); (simp only [rel.put_lit, List.set_cons_succ, List.set_cons_zero]))
  (apply rel.walk_rel (fun u w' => pri.IsL Q w' u (k) (X)) ⟨_, rfl⟩ (fun u w1 w2 h1 h2 => h2.on h1); (focus (intro wq hq hf; go_wp2_with (go_at_call 38; with_reducible refine (H _ hq).mono ?_; rintro e w'' ⟨⟨u, rfl, hu⟩, hb⟩); refine ⟨hq.trans (hb.mono hq.size), hb, ?_, rfl⟩; (show pri.IsL _ _ (rel.slot _ _) _ _; simp only [rel.slot_lit, List.getD_cons_succ, List.getD_cons_zero]; exact hu))); (intro u wu _ hu; obtain ⟨pu, t_pu, rfl, -⟩ := hu; (simp only [rel.put_lit, List.set_cons_succ, List.set_cons_zero])))
  (apply rel.walk_val; (focus (intro wq hq hf; go_wp2; refine ⟨hq, Below.refl _ _, ?_, rfl⟩; (show rel.slot _ _ = _; simp only [rel.slot_lit, List.getD_cons_succ, List.getD_cons_zero]; (first | done | exact rfl)))); (simp only [rel.put_lit, List.set_cons_succ, List.set_cons_zero]))
  (apply rel.walk_rel (fun u w' => pri.IsL Q w' u (k) (X)) ⟨_, rfl⟩ (fun u w1 w2 h1 h2 => h2.on h1); (focus (intro wq hq hf; have h0 := hf.get 0 rfl rfl; go_wp2; refine ⟨hq, Below.refl _ _, ?_, rfl⟩; (show pri.IsL _ _ (rel.slot _ _) _ _; simp only [rel.slot_lit, List.getD_cons_succ, List.getD_cons_zero]; exact h0))); (intro u wu _ hu; obtain ⟨pz, t_pz, rfl, -⟩ := hu; (simp only [rel.put_lit, List.set_cons_succ, List.set_cons_zero])))
  (refine rel.walk_nil ?_; intro w9 K9 hF; have hu9 := hF _ (List.mem_cons_self ..); clear hF)
  go_wp2
  go_ret2
  exact ⟨⟨y, pn, _, X, rfl, hn, hh, hu9, hXY⟩, K9⟩

theorem filled_any : ∀ t : Lv, Filled t
  | .nil => filled_nil
  | .one y => filled_pop _ (by simp) (popL_one y) (popR_one y)
  | .deep l i r => filled_pop _ (by simp) (popL_deep l r i (filled_any i)) (popR_deep l r i (filled_any i))
theorem popLeft_any : ∀ t : Lv, t ≠ .nil → PopL t
  | .nil, h => (h rfl).elim
  | .one y, _ => popL_one y
  | .deep l i r, _ => popL_deep l r i (filled_any i)
theorem popRight_any : ∀ t : Lv, t ≠ .nil → PopR t
  | .nil, h => (h rfl).elim
  | .one y, _ => popR_one y
  | .deep l i r, _ => popR_deep l r i (filled_any i)
end Go.Proofs.Ytfbeiimmcemniaa.pri
