/- Package finger: Digits. -/
import Derived.Test.YteolbbdokhmjgaaFinTree
import Derived.Deep.LoopGhost
namespace Go.Proofs.Yteolbbdokhmjgaa.fin
open Go Go.RowKit

/-- what Digits tells -/
def digs : Lv → List (Nat × Nat)
  | .nil => []
  | .one _ => [(1, 0)]
  | .deep l i r => (l.length, r.length) :: digs i
def dcell (d : Nat × Nat) : List Value := [.int .i64 (d.1 : Int), .int .i64 (d.2 : Int)]
def dcells (ds : List (Nat × Nat)) : List Value := ds.flatMap dcell
theorem dcells_len (ds : List (Nat × Nat)) : (dcells ds).length = ds.length * 2 := by
  induction ds with
  | nil => rfl
  | cons d ds ih => show (dcell d ++ dcells ds).length = _; rw [List.length_append, ih, List.length_cons]; simp [dcell]; omega
theorem dcells_snoc (ds : List (Nat × Nat)) (d : Nat × Nat) : dcells (ds ++ [d]) = dcells ds ++ dcell d := by simp [dcells]
theorem dcells_get : ∀ (ds : List (Nat × Nat)) (i j : Nat) (d : Nat × Nat), ds[i]? = some d → j < 2 → (dcells ds)[i * 2 + j]? = (dcell d)[j]?
  | [], i, j, d, h, _ => by simp at h
  | a :: ds, 0, j, d, h, hj => by
    obtain rfl : a = d := by simpa using h
    show (dcell a ++ dcells ds)[0 * 2 + j]? = _
    rw [Nat.zero_mul, Nat.zero_add, List.getElem?_append_left (by simp [dcell]; omega)]
  | a :: ds, i + 1, j, d, h, hj => by
    show (dcell a ++ dcells ds)[(i + 1) * 2 + j]? = _
    rw [List.getElem?_append_right (by simp [dcell]; omega), show (i + 1) * 2 + j - (dcell a).length = i * 2 + j by simp [dcell]; omega]
    exact dcells_get ds i j d (by simpa using h) hj

/-- the sum of both sides, each level's as often as 2 says from k on -/
def dsum : Nat → List (Nat × Nat) → Nat
  | _, [] => 0
  | k, d :: ds => 2 ^ k * (d.1 + d.2) + dsum (k + 1) ds
theorem dsum_le : ∀ {k : Nat} {t : Lv}, Lv.Ok k t → dsum k (digs t) ≤ t.nums.length
  | _, .nil, _ => by simp [digs, dsum]
  | k, .one n, h => by have h1 := Nd.Ht.size (n := n) h; simp [digs, dsum, Lv.nums]; omega
  | k, .deep l i r, h => by
    obtain ⟨⟨_, _, h1⟩, ⟨_, _, h2⟩, h3⟩ := h
    have e1 := h1.size
    have e2 := h2.size
    have e3 := dsum_le h3
    simp only [digs, dsum, Lv.nums, List.length_append]
    rw [Nat.mul_add, Nat.mul_comm _ l.length, Nat.mul_comm _ r.length]
    omega
theorem digs_len : ∀ {k : Nat} {t : Lv}, Lv.Ok k t → 2 ^ (k + (digs t).length) ≤ t.nums.length + 2 ^ k
  | _, .nil, _ => by simp [digs]
  | k, .one n, h => by have h1 := Nd.Ht.size (n := n) h; simp [digs, Lv.nums, Nat.pow_succ]; omega
  | k, .deep l i r, h => by
    obtain ⟨⟨l1, _, h1⟩, ⟨r1, _, h2⟩, h3⟩ := h
    have e1 := h1.size
    have e2 := h2.size
    have e3 := digs_len h3
    have e4 : 2 ^ k ≤ l.length * 2 ^ k := Nat.le_mul_of_pos_left _ l1
    simp only [digs, Lv.nums, List.length_append, List.length_cons]
    rw [show k + ((digs i).length + 1) = k + 1 + (digs i).length by omega]
    rw [Nat.pow_succ] at e3
    omega
/-- from 1 to 4 on both sides, but for one alone at last; not more numbers than n; none just if n is none -/
def Dg (n : Nat) (ds : List (Nat × Nat)) : Prop := dsum 0 ds ≤ n ∧ 2 ^ ds.length ≤ n + 1 ∧ (ds = [] ↔ n = 0) ∧ ∀ i d, ds[i]? = some d → (i + 1 = ds.length ∧ d = (1, 0)) ∨ (1 ≤ d.1 ∧ d.1 ≤ 4 ∧ 1 ≤ d.2 ∧ d.2 ≤ 4)
theorem dig_at : ∀ {k : Nat} {t : Lv}, Lv.Ok k t → ∀ i d, (digs t)[i]? = some d → (i + 1 = (digs t).length ∧ d = (1, 0)) ∨ (1 ≤ d.1 ∧ d.1 ≤ 4 ∧ 1 ≤ d.2 ∧ d.2 ≤ 4)
  | _, .nil, _, i, d, h => by simp [digs] at h
  | k, .one n, _, i, d, h => by
    cases i with
    | zero => left; simp [digs] at h; simp [digs, h]
    | succ i => simp [digs] at h
  | k, .deep l t r, hk, 0, d, h => by
    obtain ⟨⟨l1, l2, _⟩, ⟨r1, r2, _⟩, _⟩ := hk
    obtain rfl : (l.length, r.length) = d := by simpa [digs] using h
    exact .inr ⟨l1, l2, r1, r2⟩
  | k, .deep l t r, hk, i + 1, d, h => by
    obtain ⟨_, _, h3⟩ := hk
    rcases dig_at h3 i d (by simpa [digs] using h) with ⟨h1, h2⟩ | h1
    · exact .inl ⟨by simp [digs, ← h1], h2⟩
    · exact .inr h1
theorem dg_of {t : Lv} (h : Lv.Ok 0 t) {n : Nat} (hn : t.nums.length = n) : Dg n (digs t) := by
  have h2 := digs_len h
  refine ⟨hn ▸ dsum_le h, by rw [Nat.zero_add] at h2; omega, ?_, dig_at h⟩
  cases t with
  | nil => simp [digs, ← hn, Lv.nums]
  | one x => have := Nd.Ht.size (n := x) h; simp [Lv.nums] at hn; simp [digs]; omega
  | deep l i r =>
    obtain ⟨⟨l1, _, hl⟩, _⟩ := h
    have := hl.size
    simp [Lv.nums] at hn
    simp [digs]
    omega

theorem Lev.open {Q : Nat → Prop} {w : World} : ∀ {t : Lv} {p : Option Addr}, Lev Q w t p → (t = .nil ∧ p = none) ∨ ∃ g a ca b cb q x y i, p = some ⟨g, 0, none⟩ ∧ hp.Blk w g 82 (lcs t.nums (.slice a x ca) (.slice b y cb) q) ∧ digs t = (x, y) :: digs i ∧ Lev Q w i q
  | .nil, _, h => .inl ⟨rfl, h⟩
  | .one n, _, ⟨g, v, e, _, hk, hr⟩ => by
    obtain ⟨a, c, rfl, -⟩ := hr.cells
    exact .inr ⟨g, a, c, none, 0, none, 1, 0, .nil, e, hk, rfl, rfl⟩
  | .deep l i r, _, ⟨g, u, v, q, e, _, hk, hl, hr, hi⟩ => by
    obtain ⟨a, c, rfl, -⟩ := hl.cells
    obtain ⟨b, d, rfl, -⟩ := hr.cells
    exact .inr ⟨g, a, c, b, d, q, _, _, i, e, hk, rfl, hi⟩

abbrev tyD : TypeId := 47
theorem infoD : (Try.prog.info? tyD).map (fun i => (i.zero, i.size, i.bytes)) = some (some (.agg #[.int .i64 0, .int .i64 0]), 2, 16) := by kernel_rfl
theorem rowN_val {W : World} {base : Nat} {e : TypeId} {v : Value} {n size : Nat} {xs : List Value} (h : W.ownsRow base e size v n xs) : ∃ a cap, v = .slice a n cap := by
  rcases h.2 with ⟨h, h0⟩ | ⟨g, cap, cur, h, _⟩
  · exact ⟨none, 0, by rw [h, h0]⟩
  · exact ⟨_, _, h⟩
theorem rowN_low {w : World} {base base' n size : Nat} {e : TypeId} {v : Value} {xs : List Value} (h : w.ownsRow base e size v n xs) (hb : base' ≤ base) : w.ownsRow base' e size v n xs :=
  ⟨h.1, h.2.imp id fun ⟨g, cap, cur, e1, h1, h2⟩ => ⟨g, cap, cur, e1, Nat.le_trans hb h1, h2⟩⟩
theorem rowN_cell {W : World} {base : Nat} {e : TypeId} {v : Value} {n size : Nat} {xs : List Value} (h : W.ownsRow base e size v n xs) (hn : 0 < n) : ∃ g cap, v = .slice (some ⟨g, 0, none⟩) n cap ∧ base ≤ g ∧ g < W.heap.size ∧ n ≤ cap ∧ (∀ j u, xs[j]? = some u → W.cell? ⟨g, j, none⟩ = some u) := by
  obtain ⟨h1, h2⟩ := h
  rcases h2 with ⟨_, h0⟩ | ⟨g, cap, cur, rfl, hb, hg, hnc, hcm, hcs, htk⟩
  · omega
  · have hgb : hp.Blk W g e cur.toList := by unfold hp.Blk; rw [hg]
    refine ⟨g, cap, rfl, hb, lt_of_block hg, hnc, fun j u hj => ?_⟩
    rw [hgb.cell, ← hj, ← htk, List.getElem?_take_of_lt]
    rw [← htk] at hj
    have := (List.getElem?_eq_some_iff.1 hj).1
    simp at this
    omega
theorem cell_blk {w : World} {g : Nat} {cs : List Value} {t : TypeId} (hk : hp.Blk w g t cs) : ∀ j u, cs[j]? = some u → w.cell? ((⟨g, 0, none⟩ : Addr).add j) = some u := by
  intro j u hj
  rw [Addr.add_lit, Nat.zero_add, hk.cell j, hj]

set_option maxRecDepth 100000 in
set_option maxHeartbeats 8000000 in
theorem mDigits_any {T : Lv} {p : Option Addr} {w : World} (hT : Lev Any w T p) (hS : (digs T).length ≤ 64) :
    Calls Try.prog 37 #[.agg #[.pointer p]] w fun e w' => (∃ u, e = .returned u ∧ w'.ownsRow w.heap.size tyD 2 u (digs T).length (dcells (digs T))) ∧ Below w.heap.size w w' := by
  obtain ⟨i1, hi1, hy0, hy1, hy2⟩ := info_parts infoD
  go_enter Try.func37, Try.ntmps37
  go_wp2_with fail
  go_loopg [3, 4] (digs T).length (fun k v u W' => ∃ (ds : List (Nat × Nat)) (t : Lv) (q : Option Addr), u = .pointer q ∧ Lev Any w t q ∧ Hid (ds ++ digs t = digs T) ∧ k = (digs t).length ∧ Below w.heap.size w W' ∧ W'.ownsRow w.heap.size tyD 2 v ds.length (dcells ds))
  case atStart => exact ⟨[], T, p, rfl, hT, by show _ = _; simp, rfl, by ((repeat' (first | with_reducible exact Below.refl _ _ | with_reducible apply Below.setCell | with_reducible apply below_drewN | with_reducible apply Below.drew | with_reducible apply Below.alloc | with_reducible refine Below.trans ?_ (Below.mono (by assumption) ?_))) <;> (first | (simp; done) | (simp; omega) | omega)), World.ownsRow_nil _ _ _ _⟩
  case round =>
    obtain ⟨ds, t, q, rfl, ht, heq, hk, hb, hrow⟩ := hrel
    obtain ⟨av, cv, rfl⟩ := rowN_val hrow
    obtain ⟨nn, hnn⟩ : ∃ nn, nn = ds.length := ⟨_, rfl⟩
    rcases ht.open with ⟨rfl, rfl⟩ | ⟨g, a, ca, b, cb, q, x, y, i, rfl, hg, hd, hi⟩
    · have e1 := heq.out
      simp only [digs, List.append_nil] at e1
      subst e1
      subst hnn
      clear heq hk
      go_wp2_with fail
      go_ret
      exact ⟨⟨_, rfl, hrow⟩, hb⟩
    · have e1 := heq.out
      rw [hd] at e1 hk
      have e2 := congrArg List.length e1
      rw [List.length_append, List.length_cons, ← hnn] at e2
      have hn64 : nn + 1 ≤ 64 := by omega
      have h7 := (hg.on hb).cell 7
      have lg := (hg.on hb).lt
      rw [← hnn] at hrow ⊢
      replace hnn := Lib.hid hnn
      replace hk := Lib.hid hk
      replace heq := Lib.hid e1
      simp only [lcs, List.getElem?_cons_zero, List.getElem?_cons_succ] at h7
      have hB := hg.on hb
      have b5 := hB.cell 5
      have b6 := hB.cell 6
      simp only [lcs, List.getElem?_cons_zero, List.getElem?_cons_succ] at b5 b6
      clear e1 e2 ht hS
      go_wp2_with fail
      apply rel.region_tail (C := fun w' => Below wr.heap.size wr w') (X := fun w w' => Below w.heap.size w w') 13 (by kernel_rfl) (by kernel_rfl) (by kernel_rfl) (by kernel_rfl) ((Below.refl _ _).drew)
      (apply rel.walk_val; (focus (intro wq hq hf; go_wp2; refine ⟨hq, Below.refl _ _, ?_, rfl⟩; (show rel.slot _ _ = _; simp only [rel.slot_lit, List.getD_cons_succ, List.getD_cons_zero]; (first | done | exact rfl)))); (simp only [rel.put_lit, List.set_cons_succ, List.set_cons_zero]))
      (apply rel.walk_val; (focus (intro wq hq hf; go_wp2; refine ⟨hq, Below.refl _ _, ?_, rfl⟩; (show rel.slot _ _ = _; simp only [rel.slot_lit, List.getD_cons_succ, List.getD_cons_zero]; (first | done | exact rfl)))); (simp only [rel.put_lit, List.set_cons_succ, List.set_cons_zero]))
      (apply rel.walk_val; (focus (intro wq hq hf; go_wp2; refine ⟨hq, Below.refl _ _, ?_, rfl⟩; (show rel.slot _ _ = _; simp only [rel.slot_lit, List.getD_cons_succ, List.getD_cons_zero]; (first | done | exact rfl)))); (simp only [rel.put_lit, List.set_cons_succ, List.set_cons_zero]))
      (apply rel.walk_val; (focus (intro wq hq hf; go_wp2; refine ⟨hq, Below.refl _ _, ?_, rfl⟩; (show rel.slot _ _ = _; simp only [rel.slot_lit, List.getD_cons_succ, List.getD_cons_zero]; (first | done | exact rfl)))); (simp only [rel.put_lit, List.set_cons_succ, List.set_cons_zero]))
      ((apply rel.walk_val; (focus (intro wq hq hf; (have d0 := (hq.cell (p := ⟨g, 5, none⟩) lg).trans b5); go_wp2; refine ⟨hq, Below.refl _ _, ?_, rfl⟩; (show rel.slot _ _ = _; simp only [rel.slot_lit, List.getD_cons_succ, List.getD_cons_zero]; (first | done | exact rfl)))); (simp only [rel.put_lit, List.set_cons_succ, List.set_cons_zero])))
      (apply rel.walk_val; (focus (intro wq hq hf; go_wp2; refine ⟨hq, Below.refl _ _, ?_, rfl⟩; (show rel.slot _ _ = _; simp only [rel.slot_lit, List.getD_cons_succ, List.getD_cons_zero]; (first | done | exact rfl)))); (simp only [rel.put_lit, List.set_cons_succ, List.set_cons_zero]))
      (apply rel.walk_val; (focus (intro wq hq hf; go_wp2; refine ⟨hq, Below.refl _ _, ?_, rfl⟩; (show rel.slot _ _ = _; simp only [rel.slot_lit, List.getD_cons_succ, List.getD_cons_zero]; (first | done | exact rfl)))); (simp only [rel.put_lit, List.set_cons_succ, List.set_cons_zero]))
      (apply rel.walk_val; (focus (intro wq hq hf; go_wp2; refine ⟨hq, Below.refl _ _, ?_, rfl⟩; (show rel.slot _ _ = _; simp only [rel.slot_lit, List.getD_cons_succ, List.getD_cons_zero]; (first | done | exact rfl)))); (simp only [rel.put_lit, List.set_cons_succ, List.set_cons_zero]))
      (apply rel.walk_val; (focus (intro wq hq hf; go_wp2; refine ⟨hq, Below.refl _ _, ?_, rfl⟩; (show rel.slot _ _ = _; simp only [rel.slot_lit, List.getD_cons_succ, List.getD_cons_zero]; (first | done | exact rfl)))); (simp only [rel.put_lit, List.set_cons_succ, List.set_cons_zero]))
      ((apply rel.walk_val; (focus (intro wq hq hf; (have d0 := (hq.cell (p := ⟨g, 6, none⟩) lg).trans b6); go_wp2; refine ⟨hq, Below.refl _ _, ?_, rfl⟩; (show rel.slot _ _ = _; simp only [rel.slot_lit, List.getD_cons_succ, List.getD_cons_zero]; (first | done | exact rfl)))); (simp only [rel.put_lit, List.set_cons_succ, List.set_cons_zero])))
      (apply rel.walk_val; (focus (intro wq hq hf; go_wp2; refine ⟨hq, Below.refl _ _, ?_, rfl⟩; (show rel.slot _ _ = _; simp only [rel.slot_lit, List.getD_cons_succ, List.getD_cons_zero]; (first | done | exact rfl)))); (simp only [rel.put_lit, List.set_cons_succ, List.set_cons_zero]))
      (apply rel.walk_val; (focus (intro wq hq hf; go_wp2; refine ⟨hq, Below.refl _ _, ?_, rfl⟩; (show rel.slot _ _ = _; simp only [rel.slot_lit, List.getD_cons_succ, List.getD_cons_zero]; (first | done | exact rfl)))); (simp only [rel.put_lit, List.set_cons_succ, List.set_cons_zero]))
      (apply rel.walk_rel (fun u w' => ∃ g, u = .slice (some ⟨g, 0, none⟩) 1 1 ∧ hp.Blk w' g tyD [.int .i64 (x : Int), .int .i64 (y : Int)]) ⟨_, rfl⟩ (fun u w1 w2 h1 h2 => by obtain ⟨g, he, hk⟩ := h2; exact ⟨g, he, hk.on h1⟩); (focus (intro wq hq hf; go_wp2; refine ⟨hq.alloc hq.size _, (Below.refl _ _).alloc (Nat.le_refl _) _, ?_, rfl⟩; (show ∃ g, rel.slot _ _ = _ ∧ _; simp only [rel.slot_lit, List.getD_cons_succ, List.getD_cons_zero]; exact ⟨_, rfl, hp.Blk.new _ _ _⟩))); (intro u wu _ hu; obtain ⟨gu, rfl, -⟩ := hu; (simp only [rel.put_lit, List.set_cons_succ, List.set_cons_zero])))
      (refine rel.walk_nil ?_; intro w9 K9 hF; have hu9 := hF _ (List.mem_cons_self ..); clear hF)
      obtain ⟨gu', he, hk9⟩ := hu9
      cases he
      have hrow9 := hp.row_on hrow K9
      simp only [List.drop_succ_cons, List.drop_zero]
      go_wp2_with (at_builtin; refine wpList_append_own _ rfl _ _ 45 rfl w.heap.size tyD i1 (.agg #[.int .i64 0, .int .i64 0]) 2 16 Try.underlying45 hi1 hy0 hy1 hy2 rfl (by decide) _ _ _ rfl hrow9 ⟨_, 0, none⟩ 1 1 [.int .i64 (x : Int), .int .i64 (y : Int)] rfl rfl (cell_blk hk9) (by simp [Value.oneCell']) (by unfold maxLen; omega) (by omega) (by have := hb.size; have := K9.size; omega) ?_; intro v' w2 h1 h2 h3; have hb2 : Below w.heap.size w w2 := (hb.trans (K9.mono hb.size)).grown h2 (by have := hb.size; have := K9.size; omega) (fun k hk => (hrow9.lt k hk).1); have c7 := (hg.on hb2).cell 7; have lg2 := (hg.on hb2).lt; simp only [lcs, List.getElem?_cons_zero, List.getElem?_cons_succ] at c7)
      go_roundg (digs i).length
      case measure => rw [hk.out]; simp
      case rel =>
        refine ⟨ds ++ [(x, y)], i, q, rfl, hi, Lib.hid (by rw [List.append_assoc]; exact heq.out), rfl, hb2, ?_⟩
        rw [dcells_snoc, List.length_append, List.length_singleton, ← hnn.out]
        exact h1
theorem tDigits_any {u : Value} {L : List Int} {w : World} (h : IsT w u L) (hN : L.length ≤ 4611686018427387904) :
    Calls Try.prog 23 #[u] w fun e w' => (∃ v ds, e = .returned v ∧ w'.ownsRow w.heap.size tyD 2 v ds.length (dcells ds) ∧ Dg L.length ds) ∧ Below w.heap.size w w' := by
  obtain ⟨p, rfl, p', t, e, h1, h2, h3⟩ := h
  cases e
  have hD := dg_of h2 (congrArg List.length h3)
  have hS : (digs t).length ≤ 64 := by
    by_cases h : (digs t).length ≤ 64
    · exact h
    · have h5 := Nat.pow_le_pow_right (n := 2) (by omega) (show 64 ≤ (digs t).length by omega)
      have h6 := hD.2.1
      omega
  obtain ⟨W, hW⟩ : ∃ W, w.alloc (.cells #[.pointer p] 28) = W := ⟨_, rfl⟩
  have hB : hp.Blk W w.heap.size 28 [.pointer p] := by rw [← hW]; exact hp.Blk.new w [.pointer p] _
  have hb : Below w.heap.size w W := by rw [← hW]; ((repeat' (first | with_reducible exact Below.refl _ _ | with_reducible apply Below.setCell | with_reducible apply below_drewN | with_reducible apply Below.drew | with_reducible apply Below.alloc | with_reducible refine Below.trans ?_ (Below.mono (by assumption) ?_))) <;> (first | (simp; done) | (simp; omega) | omega))
  have a0 := hB.cell 0
  have l0 := hB.lt
  simp only [List.getElem?_cons_zero] at a0
  have H := mDigits_any (h1.on hb) hS
  clear h1 h2 h3 hS hB
  go_enter Try.func23, Try.ntmps23
  go_wp2_with (go_at_call 37; (with_reducible refine H.mono ?_); clear H; rintro e w5 ⟨⟨u, rfl, hu⟩, hb5⟩)
  go_ret
  exact ⟨⟨_, _, rfl, rowN_low hu hb.size, hD⟩, hb.trans (hb5.mono hb.size)⟩
end Go.Proofs.Yteolbbdokhmjgaa.fin
