/- Package measured: pushLeft, pushRight, pushAllLeft, pushAllRight. -/
import Derived.Test.YtfbeiimmcemniaaPriCat
namespace Go.Proofs.Ytfbeiimmcemniaa.pri
open Go Go.RowKit

section
variable {Q : Nat → Prop} {w : World}
theorem IsPs.old {v : Value} {ps : List (Option Addr)} (h : IsPs Q w v ps) : IsPs (fun b => Q b ∧ b < w.heap.size) w v ps := by
  obtain ⟨a, cap, hv, hn, hc⟩ := h
  refine ⟨a, cap, hv, hn, fun hl => ?_⟩
  obtain ⟨b, off, ha, hq', hbB, hcell⟩ := hc hl
  exact ⟨b, off, ha, ⟨⟨hq'.1, hbB⟩, hq'.2⟩, hbB, hcell⟩
theorem Nod.old : ∀ {n : Nd} {p : Option Addr}, Nod Q w n p → Nod (fun b => Q b ∧ b < w.heap.size) w n p
  | .leaf _, _, ⟨g, e, hq, hk⟩ => ⟨g, e, ⟨hq, hk.lt⟩, hk⟩
  | .two _ _, _, ⟨g, v, pa, pb, e, hq, hk, hv, ha, hc⟩ => ⟨g, v, pa, pb, e, ⟨hq, hk.lt⟩, hk, hv.old, Nod.old ha, Nod.old hc⟩
  | .tri _ _ _, _, ⟨g, v, pa, pb, pc, e, hq, hk, hv, ha, hc, hd⟩ => ⟨g, v, pa, pb, pc, e, ⟨hq, hk.lt⟩, hk, hv.old, Nod.old ha, Nod.old hc, Nod.old hd⟩
theorem Row.old {v : Value} {l : List Nd} (h : Row Q w v l) : Row (fun b => Q b ∧ b < w.heap.size) w v l := let ⟨ps, h1, h2⟩ := h; ⟨ps, h1.old, h2.map Nod.old⟩
theorem Lev.old : ∀ {t : Lv} {p : Option Addr}, Lev Q w t p → Lev (fun b => Q b ∧ b < w.heap.size) w t p
  | .nil, _, h => h
  | .one _, _, ⟨g, v, e, hq, hk, hr⟩ => ⟨g, v, e, ⟨hq, hk.lt⟩, hk, hr.old⟩
  | .deep _ _ _, _, ⟨g, u, v, q, e, hq, hk, hl, hr, hi⟩ => ⟨g, u, v, q, e, ⟨hq, hk.lt⟩, hk, hl.old, hr.old, Lev.old hi⟩
theorem Row.val {v : Value} {l : List Nd} (h : Row Q w v l) : ∃ a n c, v = .slice a n c := let ⟨a, c, e, _⟩ := h.cells; ⟨a, _, c, e⟩
/-- what stays: the blocks of trees -/
def Keep (W W' : World) : Prop := ∀ b t cs, (t = 69 ∨ t = 74 ∨ t = 61) → hp.Blk W b t cs → hp.Blk W' b t cs
theorem Keep.of_below {W W' : World} (h : Below W.heap.size W W') : Keep W W' := fun _ _ _ _ hk => hk.on h
theorem Keep.of_set {W : World} {g o : Nat} {t : TypeId} {cs : List Value} (hg : hp.Blk W g t cs) (h1 : t ≠ 69) (h2 : t ≠ 74) (h3 : t ≠ 61) (v : Value) : Keep W (W.setCell ⟨g, o, none⟩ v) := by
  intro b t' cs' ht hk
  refine hk.other (fun e => ?_) v
  subst e
  unfold hp.Blk at hk hg
  rw [hk] at hg
  simp at hg
  rcases ht with rfl | rfl | rfl
  · exact h1 hg.2.symm
  · exact h2 hg.2.symm
  · exact h3 hg.2.symm
section
variable {w' : World} (h : Keep w w')
include h
theorem IsPs.keep {v : Value} {ps : List (Option Addr)} (hv : IsPs Q w v ps) : IsPs Q w' v ps := by
  obtain ⟨a, cap, e, hn, hc⟩ := hv
  refine ⟨a, cap, e, hn, fun hl => ?_⟩
  obtain ⟨b, off, ha, ⟨hq, cs, hB⟩, hbB, hcell⟩ := hc hl
  have hB' := h b _ cs (.inr (.inr rfl)) hB
  exact ⟨b, off, ha, ⟨hq, cs, hB'⟩, hB'.lt, fun k hk => by rw [hB'.cell, ← hB.cell]; exact hcell k hk⟩
theorem Nod.keep : ∀ {n : Nd} {p : Option Addr}, Nod Q w n p → Nod Q w' n p
  | .leaf _, _, ⟨g, e, hq, hk⟩ => ⟨g, e, hq, h _ _ _ (.inl rfl) hk⟩
  | .two _ _, _, ⟨g, v, pa, pb, e, hq, hk, hv, ha, hc⟩ => ⟨g, v, pa, pb, e, hq, h _ _ _ (.inl rfl) hk, hv.keep h, Nod.keep ha, Nod.keep hc⟩
  | .tri _ _ _, _, ⟨g, v, pa, pb, pc, e, hq, hk, hv, ha, hc, hd⟩ => ⟨g, v, pa, pb, pc, e, hq, h _ _ _ (.inl rfl) hk, hv.keep h, Nod.keep ha, Nod.keep hc, Nod.keep hd⟩
theorem Row.keep {v : Value} {l : List Nd} (hv : Row Q w v l) : Row Q w' v l := let ⟨ps, h1, h2⟩ := hv; ⟨ps, h1.keep h, h2.map (Nod.keep h)⟩
theorem Lev.keep : ∀ {t : Lv} {p : Option Addr}, Lev Q w t p → Lev Q w' t p
  | .nil, _, h0 => h0
  | .one _, _, ⟨g, v, e, hq, hk, hr⟩ => ⟨g, v, e, hq, h _ _ _ (.inr (.inl rfl)) hk, hr.keep h⟩
  | .deep _ _ _, _, ⟨g, u, v, q, e, hq, hk, hl, hr, hi⟩ => ⟨g, u, v, q, e, hq, h _ _ _ (.inr (.inl rfl)) hk, hl.keep h, hr.keep h, Lev.keep hi⟩
theorem IsL.keep {u : Value} {k : Nat} {l : List (Int × Int)} (hu : IsL Q w u k l) : IsL Q w' u k l := let ⟨p, n, e, h1, h2⟩ := hu; ⟨p, n, e, h1.keep h, h2⟩
theorem IsN.keep {u : Value} {k : Nat} {l : List (Int × Int)} (hu : IsN Q w u k l) : IsN Q w' u k l := let ⟨p, n, e, h1, h2⟩ := hu; ⟨p, n, e, h1.keep h, h2⟩
end
/-- all but one block, which is newer -/
def Not (Q : Nat → Prop) (g : Nat) (b : Nat) : Prop := Q b ∧ b ≠ g
theorem Row.not {v : Value} {l : List Nd} (h : Row Q w v l) {g : Nat} (hg : w.heap.size ≤ g) : Row (Not Q g) w v l := h.old.imp fun b ⟨h1, h2⟩ => ⟨h1, by omega⟩
theorem Nod.not {n : Nd} {p : Option Addr} (h : Nod Q w n p) {g : Nat} (hg : w.heap.size ≤ g) : Nod (Not Q g) w n p := h.old.imp fun b ⟨h1, h2⟩ => ⟨h1, by omega⟩
theorem Lev.not {t : Lv} {p : Option Addr} (h : Lev Q w t p) {g : Nat} (hg : w.heap.size ≤ g) : Lev (Not Q g) w t p := h.old.imp fun b ⟨h1, h2⟩ => ⟨h1, by omega⟩
theorem Row.one {p : Option Addr} {n : Nd} (h : Nod Q w n p) {r : Nat} (hr : Q r) (hB : hp.Blk w r 61 [.pointer p]) : Row Q w (.slice (some ⟨r, 0, none⟩) 1 1) [n] := by
  have c := hB.cell 0
  refine ⟨[p], ⟨_, 1, rfl, ⟨(fun h => by cases h), by simp⟩, fun _ => ⟨r, 0, rfl, ⟨hr, _, hB⟩, hB.lt, fun k hk => ?_⟩⟩, h, trivial⟩
  obtain rfl : k = 0 := by simpa using hk
  simpa using c
theorem Row.two {p q : Option Addr} {n m : Nd} (h : Nod Q w n p) (h' : Nod Q w m q) {r : Nat} (hr : Q r) (hB : hp.Blk w r 61 [.pointer p, .pointer q]) : Row Q w (.slice (some ⟨r, 0, none⟩) 2 2) [n, m] := by
  refine ⟨[p, q], ⟨_, 2, rfl, ⟨(fun h => by cases h), by simp⟩, fun _ => ⟨r, 0, rfl, ⟨hr, _, hB⟩, hB.lt, fun k hk => ?_⟩⟩, h, h', trivial⟩
  match k, hk with
  | 0, _ => simpa using hB.cell 0
  | 1, _ => simpa using hB.cell 1
  | k + 2, hk => exact absurd hk (by simp)
/-- a level is complete -/
theorem IsL.deep {g k : Nat} {L : List (Int × Int)} {u v : Value} {q : Option Addr} {l r : List Nd} {i : Lv} (hg : Q g) (hB : hp.Blk w g 74 (lcs L u v q)) (hl : Row Q w u l) (hr : Row Q w v r) (hi : Lev Q w i q)
    (h1 : 1 ≤ l.length ∧ l.length ≤ 4 ∧ Hts k l) (h2 : 1 ≤ r.length ∧ r.length ≤ 4 ∧ Hts k r) (h3 : Lv.Ok (k + 1) i) (e : flat l ++ i.nums ++ flat r = L) : IsL Q w (.pointer (some ⟨g, 0, none⟩)) k L :=
  ⟨_, .deep l i r, rfl, ⟨g, u, v, q, rfl, hg, by rw [e]; exact hB, hl, hr, hi⟩, ⟨h1, h2, h3⟩, e⟩
end

set_option maxRecDepth 100000 in
set_option maxHeartbeats 8000000 in
attribute [-go_sem] sliced in
theorem pushLeft_any : ∀ (t : Lv) {Q : Nat → Prop} (k : Nat) (p px : Option Addr) (x : Nd) (w : World) (L : List (Int × Int)), (∀ b, w.heap.size ≤ b → Q b) → Lev Q w t p → Lv.Ok k t → Nod Q w x px → Nd.Ht k x → x.nums ++ t.nums = L → L.length ≤ 4611686018427387904 →
    Calls Try.prog 37 #[.pointer p, .pointer px] w fun e w' => (∃ u, e = .returned u ∧ IsL Q w' u k L) ∧ Below w.heap.size w w' := by
  intro t
  induction t with
  | nil =>
    intro Q k p px x w L hQ hl ho hx hh hL hbd
    obtain rfl : p = none := hl
    obtain rfl : x.nums = L := by simpa [Lv.nums] using hL
    have H := single_any x px w hQ hx
    clear hx hbd hL
    go_enter Try.func37, Try.ntmps37
    go_wp2_with (go_at_call 32; (with_reducible refine H.mono ?_); clear H; rintro e w1 ⟨⟨q, rfl, hq⟩, hb1⟩)
    go_ret
    exact ⟨⟨_, rfl, _, _, rfl, hq, hh, rfl⟩, hb1⟩
  | one y =>
    intro Q k p px x w L hQ hl ho hx hh hL hbd
    have S := fun W (h : Below w.heap.size w W) => isSingle_one (hl.on h)
    obtain ⟨g0, v, rfl, -, hk, hr⟩ := hl
    obtain ⟨a, c, rfl, -⟩ := hr.cells
    obtain ⟨gx, xe, vx, rfl, hgx, hX, -⟩ := hx.blk
    obtain ⟨X, hX0⟩ : ∃ X, x.nums = X := ⟨_, rfl⟩
    obtain ⟨Y, hY0⟩ : ∃ X, y.nums = X := ⟨_, rfl⟩
    have hL' : X ++ Y = L := by rw [← hL, ← hX0, ← hY0]; rfl
    rw [hX0] at hX
    rw [hY0] at hk
    have J := fun W => mjoin_any X Y L W hL' (by have := congrArg List.length hL'; rw [List.length_append] at this; omega)
    have hM := methodJoin
    have hg := hk.lt
    have c5 := hk.cell 2
    have c6 := hk.cell 3
    have c7 := hk.cell 4
    simp only [List.getElem?_cons_zero, List.getElem?_cons_succ] at c5 c6 c7
    have hdone : ∀ W g z, w.heap.size ≤ g → Below w.heap.size w W → hp.Blk W g 74 (lcs L (.slice (some ⟨z, 0, none⟩) 1 1) (.slice a [y].length c) none) → w.heap.size ≤ z → hp.Blk W z 61 [.pointer (some ⟨gx, 0, none⟩)] → IsL Q W (.pointer (some ⟨g, 0, none⟩)) k L :=
      fun W g z hg hb hB hz hZ => IsL.deep (hQ _ hg) hB (Row.one (hx.on hb) (hQ _ hz) hZ) (hr.on hb) (i := .nil) rfl ⟨by simp, by simp, Hts.one hh⟩ ⟨by simp, by simp, Hts.one ho⟩ trivial (by rw [flat_one, flat_one, hX0, hY0, ← hL']; simp [Lv.nums])
    replace hdone := Lib.hid hdone
    clear hL hL' hbd hr hx
    go_enter Try.func37, Try.ntmps37
    go_wp2_with fail
    (apply rel.region (C := fun w' => Below w.heap.size w w') (X := fun w w' => Below w.heap.size w w') (by kernel_rfl) (by kernel_rfl) (by kernel_rfl) ((Below.refl _ _).drew); (apply rel.walk_val; (focus (intro wq hq hf; go_wp2; refine ⟨hq, Below.refl _ _, ?_, rfl⟩; (show rel.slot _ _ = _; simp only [rel.slot_lit, List.getD_cons_succ, List.getD_cons_zero]; (first | done | exact rfl)))); (simp only [rel.put_lit, List.set_cons_succ, List.set_cons_zero])); (apply rel.walk_val; (focus (intro wq hq hf; go_wp2; refine ⟨hq, Below.refl _ _, ?_, rfl⟩; (show rel.slot _ _ = _; simp only [rel.slot_lit, List.getD_cons_succ, List.getD_cons_zero]; (first | done | exact rfl)))); (simp only [rel.put_lit, List.set_cons_succ, List.set_cons_zero])); (apply rel.walk_val; (focus (intro wq hq hf; go_wp2; refine ⟨hq, Below.refl _ _, ?_, rfl⟩; (show rel.slot _ _ = _; simp only [rel.slot_lit, List.getD_cons_succ, List.getD_cons_zero]; (first | done | exact rfl)))); (simp only [rel.put_lit, List.set_cons_succ, List.set_cons_zero])); ((apply rel.walk_val; (focus (intro wq hq hf; (obtain ⟨d0, d1⟩ := ((hX).below hq (hX).lt).cellsM); go_wp2; refine ⟨hq, Below.refl _ _, ?_, rfl⟩; (show rel.slot _ _ = _; simp only [rel.slot_lit, List.getD_cons_succ, List.getD_cons_zero]; (first | done | exact rfl)))); (simp only [rel.put_lit, List.set_cons_succ, List.set_cons_zero]))); (apply rel.walk_val; (focus (intro wq hq hf; go_wp2; refine ⟨hq, Below.refl _ _, ?_, rfl⟩; (show rel.slot _ _ = _; simp only [rel.slot_lit, List.getD_cons_succ, List.getD_cons_zero]; (first | done | exact rfl)))); (simp only [rel.put_lit, List.set_cons_succ, List.set_cons_zero])); (apply rel.walk_val; (focus (intro wq hq hf; go_wp2; refine ⟨hq, Below.refl _ _, ?_, rfl⟩; (show rel.slot _ _ = _; simp only [rel.slot_lit, List.getD_cons_succ, List.getD_cons_zero]; (first | done | exact rfl)))); (simp only [rel.put_lit, List.set_cons_succ, List.set_cons_zero])); (apply rel.walk_val; (focus (intro wq hq hf; go_wp2; refine ⟨hq, Below.refl _ _, ?_, rfl⟩; (show rel.slot _ _ = _; simp only [rel.slot_lit, List.getD_cons_succ, List.getD_cons_zero]; (first | done | exact rfl)))); (simp only [rel.put_lit, List.set_cons_succ, List.set_cons_zero])); (apply rel.walk_val; (focus (intro wq hq hf; go_wp2; refine ⟨hq, Below.refl _ _, ?_, rfl⟩; (show rel.slot _ _ = _; simp only [rel.slot_lit, List.getD_cons_succ, List.getD_cons_zero]; (first | done | exact rfl)))); (simp only [rel.put_lit, List.set_cons_succ, List.set_cons_zero])); ((apply rel.walk_val; (focus (intro wq hq hf; (obtain ⟨d0, d1⟩ := ((hk).below hq (hk).lt).cellsM); go_wp2; refine ⟨hq, Below.refl _ _, ?_, rfl⟩; (show rel.slot _ _ = _; simp only [rel.slot_lit, List.getD_cons_succ, List.getD_cons_zero]; (first | done | exact rfl)))); (simp only [rel.put_lit, List.set_cons_succ, List.set_cons_zero]))); (apply rel.walk_val; (focus (intro wq hq hf; go_wp2_with (go_at_call 67; refine (J _).mono ?_; rintro e w'' ⟨rfl, hb⟩); refine ⟨hq.trans (hb.mono hq.size), hb, ?_, rfl⟩; (show rel.slot _ _ = _; simp only [rel.slot_lit, List.getD_cons_succ, List.getD_cons_zero]; (first | done | exact rfl)))); (simp only [rel.put_lit, List.set_cons_succ, List.set_cons_zero])); (apply rel.walk_val; (focus (intro wq hq hf; go_wp2; refine ⟨hq, Below.refl _ _, ?_, rfl⟩; (show rel.slot _ _ = _; simp only [rel.slot_lit, List.getD_cons_succ, List.getD_cons_zero]; (first | done | exact rfl)))); (simp only [rel.put_lit, List.set_cons_succ, List.set_cons_zero])); (apply rel.walk_val; (focus (intro wq hq hf; go_wp2; refine ⟨hq, Below.refl _ _, ?_, rfl⟩; (show rel.slot _ _ = _; simp only [rel.slot_lit, List.getD_cons_succ, List.getD_cons_zero]; (first | done | exact rfl)))); (simp only [rel.put_lit, List.set_cons_succ, List.set_cons_zero])); (apply rel.walk_val; (focus (intro wq hq hf; go_wp2; refine ⟨hq, Below.refl _ _, ?_, rfl⟩; (show rel.slot _ _ = _; simp only [rel.slot_lit, List.getD_cons_succ, List.getD_cons_zero]; (first | done | exact rfl)))); (simp only [rel.put_lit, List.set_cons_succ, List.set_cons_zero])); ((apply rel.walk_val; (focus (intro wq hq hf; (have d0 := (hq.cell (p := ⟨g0, 4, none⟩) hg).trans c7); go_wp2; refine ⟨hq, Below.refl _ _, ?_, rfl⟩; (show rel.slot _ _ = _; simp only [rel.slot_lit, List.getD_cons_succ, List.getD_cons_zero]; (first | done | exact rfl)))); (simp only [rel.put_lit, List.set_cons_succ, List.set_cons_zero]))); (apply rel.walk_val; (focus (intro wq hq hf; go_wp2; refine ⟨hq, Below.refl _ _, ?_, rfl⟩; (show rel.slot _ _ = _; simp only [rel.slot_lit, List.getD_cons_succ, List.getD_cons_zero]; (first | done | exact rfl)))); (simp only [rel.put_lit, List.set_cons_succ, List.set_cons_zero])); (apply rel.walk_val; (focus (intro wq hq hf; go_wp2; refine ⟨hq, Below.refl _ _, ?_, rfl⟩; (show rel.slot _ _ = _; simp only [rel.slot_lit, List.getD_cons_succ, List.getD_cons_zero]; (first | done | exact rfl)))); (simp only [rel.put_lit, List.set_cons_succ, List.set_cons_zero])); (apply rel.walk_val; (focus (intro wq hq hf; go_wp2; refine ⟨hq, Below.refl _ _, ?_, rfl⟩; (show rel.slot _ _ = _; simp only [rel.slot_lit, List.getD_cons_succ, List.getD_cons_zero]; (first | done | exact rfl)))); (simp only [rel.put_lit, List.set_cons_succ, List.set_cons_zero])); ((apply rel.walk_val; (focus (intro wq hq hf; (have d0 := (hq.cell (p := ⟨g0, 3, none⟩) hg).trans c6); go_wp2; refine ⟨hq, Below.refl _ _, ?_, rfl⟩; (show rel.slot _ _ = _; simp only [rel.slot_lit, List.getD_cons_succ, List.getD_cons_zero]; (first | done | exact rfl)))); (simp only [rel.put_lit, List.set_cons_succ, List.set_cons_zero]))); (apply rel.walk_val; (focus (intro wq hq hf; go_wp2; refine ⟨hq, Below.refl _ _, ?_, rfl⟩; (show rel.slot _ _ = _; simp only [rel.slot_lit, List.getD_cons_succ, List.getD_cons_zero]; (first | done | exact rfl)))); (simp only [rel.put_lit, List.set_cons_succ, List.set_cons_zero])); (apply rel.walk_rel (fun u w' => ∃ γ, u = .pointer (some ⟨γ, 0, none⟩) ∧ w.heap.size ≤ γ ∧ hp.Blk w' γ 74 (lcs L (.slice none 0 0) (.slice none 0 0) none)) ⟨_, rfl⟩ (fun u w1 w2 h1 h2 => by obtain ⟨γ, he, hl, hk⟩ := h2; exact ⟨γ, he, hl, hk.on h1⟩); (focus (intro wq hq hf; go_wp2; refine ⟨hq.alloc hq.size _, (Below.refl _ _).alloc (Nat.le_refl _) _, ?_, rfl⟩; (show ∃ γ, rel.slot _ _ = _ ∧ _; simp only [rel.slot_lit, List.getD_cons_succ, List.getD_cons_zero]; exact ⟨_, rfl, hq.size, hp.Blk.new _ _ _⟩))); (intro u wu _ hu; obtain ⟨p1, rfl, -⟩ := hu; (simp only [rel.put_lit, List.set_cons_succ, List.set_cons_zero]))); (apply rel.walk_rel (fun u w' => ∃ γ, u = .pointer (some ⟨γ, 0, none⟩) ∧ w.heap.size ≤ γ ∧ hp.Blk w' γ 74 (lcs L (.slice none 0 0) (.slice none 0 0) none)) ⟨_, rfl⟩ (fun u w1 w2 h1 h2 => by obtain ⟨γ, he, hl, hk⟩ := h2; exact ⟨γ, he, hl, hk.on h1⟩); (focus (intro wq hq hf; have h0 := hf.get 0 rfl rfl; go_wp2; refine ⟨hq, Below.refl _ _, ?_, rfl⟩; (show ∃ γ, rel.slot _ _ = _ ∧ _; simp only [rel.slot_lit, List.getD_cons_succ, List.getD_cons_zero]; exact h0))); (intro u wu _ hu; obtain ⟨p2, rfl, -⟩ := hu; (simp only [rel.put_lit, List.set_cons_succ, List.set_cons_zero]))); (refine rel.walk_nil ?_; intro w9 K9 hF; have hu9 := hF _ (List.mem_cons_self ..); clear hF))
    obtain ⟨g, e, hgw, hB⟩ := hu9
    cases e
    have hs9 := K9.size
    have hne : w9.heap.size ≠ p2 := Nat.ne_of_gt hB.lt
    have hB' := hB.alloc (.cells #[.pointer (some ⟨gx, 0, none⟩)] 61)
    have d5 := hB'.cell 2
    have d6 := hB'.cell 3
    have df := hB'.free
    simp only [List.getElem?_cons_zero, List.getElem?_cons_succ] at d5 d6
    have e5 := (K9.cell (p := ⟨g0, 2, none⟩) hg).trans c5
    have hg9 : g0 < w9.heap.size := by have := K9.size; omega
    go_wp2_with (go_at_call 41; (with_reducible refine (S _ K9).mono ?_); clear S; rintro e w1 ⟨rfl, rfl⟩)
    go_ret
    refine ⟨⟨_, rfl, hdone.out _ p2 w9.heap.size hgw ?_ ((hB'.set 2 _).set 3 _) K9.size ?_⟩, ?_⟩
    · ((repeat' (first | with_reducible exact Below.refl _ _ | with_reducible apply Below.setCell | with_reducible apply below_drewN | with_reducible apply Below.drew | with_reducible apply Below.alloc | with_reducible refine Below.trans ?_ (Below.mono (by assumption) ?_))) <;> (first | (simp; done) | (simp; omega) | omega))
    · exact ((hp.Blk.new w9 [.pointer (some ⟨gx, 0, none⟩)] 61).other (a := ⟨p2, 2, none⟩) hne _).other (a := ⟨p2, 3, none⟩) hne _
    · ((repeat' (first | with_reducible exact Below.refl _ _ | with_reducible apply Below.setCell | with_reducible apply below_drewN | with_reducible apply Below.drew | with_reducible apply Below.alloc | with_reducible refine Below.trans ?_ (Below.mono (by assumption) ?_))) <;> (first | (simp; done) | (simp; omega) | omega))
  | deep l i r ih =>
    intro Q k p px x w L hQ hl ho hx hh hL hbd
    obtain ⟨⟨l1, l4, lh⟩, ⟨r1, r4, rh⟩, oi⟩ := ho
    have S := fun W (h : Below w.heap.size w W) => isSingle_deep (hl.on h) r1
    obtain ⟨g0, u, v, q, rfl, -, hk, hlw, hr, hi⟩ := hl
    obtain ⟨al, cl, rfl, -, hcl, hcc⟩ := hlw.cells
    obtain ⟨ar, cr, rfl, -⟩ := hr.cells
    obtain ⟨gx, xe, vx, rfl, hgx, hX, -⟩ := hx.blk
    obtain ⟨X, hX0⟩ : ∃ X, x.nums = X := ⟨_, rfl⟩
    obtain ⟨A, hA0⟩ : ∃ X, flat l = X := ⟨_, rfl⟩
    obtain ⟨I, hI0⟩ : ∃ X, i.nums = X := ⟨_, rfl⟩
    obtain ⟨R, hR0⟩ : ∃ X, flat r = X := ⟨_, rfl⟩
    obtain ⟨Y, hY0⟩ : ∃ Y, A ++ I ++ R = Y := ⟨_, rfl⟩
    have hL' : X ++ Y = L := by rw [← hL, ← hX0, ← hY0, ← hA0, ← hI0, ← hR0]; rfl
    rw [hX0] at hX
    rw [hA0, hI0, hR0, hY0] at hk
    have hlen := congrArg List.length hL'
    have hlen2 := congrArg List.length hY0
    rw [List.length_append] at hlen
    rw [List.length_append, List.length_append] at hlen2
    have J := fun W => mjoin_any X Y L W hL' (by omega)
    have hM := methodJoin
    have hg := hk.lt
    have c5 := hk.cell 2
    have c6 := hk.cell 3
    have c7 := hk.cell 4
    simp only [List.getElem?_cons_zero, List.getElem?_cons_succ] at c5 c6 c7
    by_cases hlt : l.length < 4
    · obtain ⟨n, hn⟩ : ∃ n, l.length = n := ⟨_, rfl⟩
      have hdone : ∀ W g z, w.heap.size ≤ g → Below w.heap.size w W → hp.Blk W g 74 (lcs L z (.slice ar r.length cr) q) → Row Q W z ([x] ++ l) → IsL Q W (.pointer (some ⟨g, 0, none⟩)) k L :=
        fun W g z hg hb hB hz => IsL.deep (hQ _ hg) hB hz (hr.on hb) (hi.on hb) ⟨by simp, by simp; omega, (Hts.one hh).append lh⟩ ⟨r1, r4, rh⟩ oi (by rw [flat_append, flat_one, hX0, hA0, hI0, hR0, ← hL', ← hY0]; simp)
      have C := fun W (hW : Below w.heap.size w W) (g : Nat) (hg : w.heap.size ≤ g) (hgW : g < W.heap.size) (s z : Nat) (hs : hp.Blk W s 67 [.slice (some ⟨z, 0, none⟩) 1 1, .slice al l.length cl]) (hz : hp.Blk W z 61 [.pointer (some ⟨gx, 0, none⟩)]) (hz1 : w.heap.size ≤ z) (hz2 : z ≠ g) =>
        concat2_any (Q := Not Q g) s _ _ [x] l W (fun b hb => ⟨hQ _ (by have := hW.size; omega), by omega⟩) hs (Row.one ((hx.not hg).on hW) ⟨hQ _ hz1, hz2⟩ hz) ((hlw.not hg).on hW) (by simp; omega)
      rw [hn] at c5 C hlt hcl
      have hn := Lib.hid hn
      replace hdone := Lib.hid hdone
      replace C := Lib.hid C
      clear hL hL' hbd hr hx hA0 hI0 hR0 hY0 hlen hlen2 ih hcc hi hlw
      go_enter Try.func37, Try.ntmps37
      go_wp2_with fail
      (apply rel.region (C := fun w' => Below w.heap.size w w') (X := fun w w' => Below w.heap.size w w') (by kernel_rfl) (by kernel_rfl) (by kernel_rfl) ((Below.refl _ _).drew); (apply rel.walk_val; (focus (intro wq hq hf; go_wp2; refine ⟨hq, Below.refl _ _, ?_, rfl⟩; (show rel.slot _ _ = _; simp only [rel.slot_lit, List.getD_cons_succ, List.getD_cons_zero]; (first | done | exact rfl)))); (simp only [rel.put_lit, List.set_cons_succ, List.set_cons_zero])); (apply rel.walk_val; (focus (intro wq hq hf; go_wp2; refine ⟨hq, Below.refl _ _, ?_, rfl⟩; (show rel.slot _ _ = _; simp only [rel.slot_lit, List.getD_cons_succ, List.getD_cons_zero]; (first | done | exact rfl)))); (simp only [rel.put_lit, List.set_cons_succ, List.set_cons_zero])); (apply rel.walk_val; (focus (intro wq hq hf; go_wp2; refine ⟨hq, Below.refl _ _, ?_, rfl⟩; (show rel.slot _ _ = _; simp only [rel.slot_lit, List.getD_cons_succ, List.getD_cons_zero]; (first | done | exact rfl)))); (simp only [rel.put_lit, List.set_cons_succ, List.set_cons_zero])); ((apply rel.walk_val; (focus (intro wq hq hf; (obtain ⟨d0, d1⟩ := ((hX).below hq (hX).lt).cellsM); go_wp2; refine ⟨hq, Below.refl _ _, ?_, rfl⟩; (show rel.slot _ _ = _; simp only [rel.slot_lit, List.getD_cons_succ, List.getD_cons_zero]; (first | done | exact rfl)))); (simp only [rel.put_lit, List.set_cons_succ, List.set_cons_zero]))); (apply rel.walk_val; (focus (intro wq hq hf; go_wp2; refine ⟨hq, Below.refl _ _, ?_, rfl⟩; (show rel.slot _ _ = _; simp only [rel.slot_lit, List.getD_cons_succ, List.getD_cons_zero]; (first | done | exact rfl)))); (simp only [rel.put_lit, List.set_cons_succ, List.set_cons_zero])); (apply rel.walk_val; (focus (intro wq hq hf; go_wp2; refine ⟨hq, Below.refl _ _, ?_, rfl⟩; (show rel.slot _ _ = _; simp only [rel.slot_lit, List.getD_cons_succ, List.getD_cons_zero]; (first | done | exact rfl)))); (simp only [rel.put_lit, List.set_cons_succ, List.set_cons_zero])); (apply rel.walk_val; (focus (intro wq hq hf; go_wp2; refine ⟨hq, Below.refl _ _, ?_, rfl⟩; (show rel.slot _ _ = _; simp only [rel.slot_lit, List.getD_cons_succ, List.getD_cons_zero]; (first | done | exact rfl)))); (simp only [rel.put_lit, List.set_cons_succ, List.set_cons_zero])); (apply rel.walk_val; (focus (intro wq hq hf; go_wp2; refine ⟨hq, Below.refl _ _, ?_, rfl⟩; (show rel.slot _ _ = _; simp only [rel.slot_lit, List.getD_cons_succ, List.getD_cons_zero]; (first | done | exact rfl)))); (simp only [rel.put_lit, List.set_cons_succ, List.set_cons_zero])); ((apply rel.walk_val; (focus (intro wq hq hf; (obtain ⟨d0, d1⟩ := ((hk).below hq (hk).lt).cellsM); go_wp2; refine ⟨hq, Below.refl _ _, ?_, rfl⟩; (show rel.slot _ _ = _; simp only [rel.slot_lit, List.getD_cons_succ, List.getD_cons_zero]; (first | done | exact rfl)))); (simp only [rel.put_lit, List.set_cons_succ, List.set_cons_zero]))); (apply rel.walk_val; (focus (intro wq hq hf; go_wp2_with (go_at_call 67; refine (J _).mono ?_; rintro e w'' ⟨rfl, hb⟩); refine ⟨hq.trans (hb.mono hq.size), hb, ?_, rfl⟩; (show rel.slot _ _ = _; simp only [rel.slot_lit, List.getD_cons_succ, List.getD_cons_zero]; (first | done | exact rfl)))); (simp only [rel.put_lit, List.set_cons_succ, List.set_cons_zero])); (apply rel.walk_val; (focus (intro wq hq hf; go_wp2; refine ⟨hq, Below.refl _ _, ?_, rfl⟩; (show rel.slot _ _ = _; simp only [rel.slot_lit, List.getD_cons_succ, List.getD_cons_zero]; (first | done | exact rfl)))); (simp only [rel.put_lit, List.set_cons_succ, List.set_cons_zero])); (apply rel.walk_val; (focus (intro wq hq hf; go_wp2; refine ⟨hq, Below.refl _ _, ?_, rfl⟩; (show rel.slot _ _ = _; simp only [rel.slot_lit, List.getD_cons_succ, List.getD_cons_zero]; (first | done | exact rfl)))); (simp only [rel.put_lit, List.set_cons_succ, List.set_cons_zero])); (apply rel.walk_val; (focus (intro wq hq hf; go_wp2; refine ⟨hq, Below.refl _ _, ?_, rfl⟩; (show rel.slot _ _ = _; simp only [rel.slot_lit, List.getD_cons_succ, List.getD_cons_zero]; (first | done | exact rfl)))); (simp only [rel.put_lit, List.set_cons_succ, List.set_cons_zero])); ((apply rel.walk_val; (focus (intro wq hq hf; (have d0 := (hq.cell (p := ⟨g0, 4, none⟩) hg).trans c7); go_wp2; refine ⟨hq, Below.refl _ _, ?_, rfl⟩; (show rel.slot _ _ = _; simp only [rel.slot_lit, List.getD_cons_succ, List.getD_cons_zero]; (first | done | exact rfl)))); (simp only [rel.put_lit, List.set_cons_succ, List.set_cons_zero]))); (apply rel.walk_val; (focus (intro wq hq hf; go_wp2; refine ⟨hq, Below.refl _ _, ?_, rfl⟩; (show rel.slot _ _ = _; simp only [rel.slot_lit, List.getD_cons_succ, List.getD_cons_zero]; (first | done | exact rfl)))); (simp only [rel.put_lit, List.set_cons_succ, List.set_cons_zero])); (apply rel.walk_val; (focus (intro wq hq hf; go_wp2; refine ⟨hq, Below.refl _ _, ?_, rfl⟩; (show rel.slot _ _ = _; simp only [rel.slot_lit, List.getD_cons_succ, List.getD_cons_zero]; (first | done | exact rfl)))); (simp only [rel.put_lit, List.set_cons_succ, List.set_cons_zero])); (apply rel.walk_val; (focus (intro wq hq hf; go_wp2; refine ⟨hq, Below.refl _ _, ?_, rfl⟩; (show rel.slot _ _ = _; simp only [rel.slot_lit, List.getD_cons_succ, List.getD_cons_zero]; (first | done | exact rfl)))); (simp only [rel.put_lit, List.set_cons_succ, List.set_cons_zero])); ((apply rel.walk_val; (focus (intro wq hq hf; (have d0 := (hq.cell (p := ⟨g0, 3, none⟩) hg).trans c6); go_wp2; refine ⟨hq, Below.refl _ _, ?_, rfl⟩; (show rel.slot _ _ = _; simp only [rel.slot_lit, List.getD_cons_succ, List.getD_cons_zero]; (first | done | exact rfl)))); (simp only [rel.put_lit, List.set_cons_succ, List.set_cons_zero]))); (apply rel.walk_val; (focus (intro wq hq hf; go_wp2; refine ⟨hq, Below.refl _ _, ?_, rfl⟩; (show rel.slot _ _ = _; simp only [rel.slot_lit, List.getD_cons_succ, List.getD_cons_zero]; (first | done | exact rfl)))); (simp only [rel.put_lit, List.set_cons_succ, List.set_cons_zero])); (apply rel.walk_rel (fun u w' => ∃ γ, u = .pointer (some ⟨γ, 0, none⟩) ∧ w.heap.size ≤ γ ∧ hp.Blk w' γ 74 (lcs L (.slice none 0 0) (.slice ar r.length cr) q)) ⟨_, rfl⟩ (fun u w1 w2 h1 h2 => by obtain ⟨γ, he, hl, hk⟩ := h2; exact ⟨γ, he, hl, hk.on h1⟩); (focus (intro wq hq hf; go_wp2; refine ⟨hq.alloc hq.size _, (Below.refl _ _).alloc (Nat.le_refl _) _, ?_, rfl⟩; (show ∃ γ, rel.slot _ _ = _ ∧ _; simp only [rel.slot_lit, List.getD_cons_succ, List.getD_cons_zero]; exact ⟨_, rfl, hq.size, hp.Blk.new _ _ _⟩))); (intro u wu _ hu; obtain ⟨p1, rfl, -⟩ := hu; (simp only [rel.put_lit, List.set_cons_succ, List.set_cons_zero]))); (apply rel.walk_rel (fun u w' => ∃ γ, u = .pointer (some ⟨γ, 0, none⟩) ∧ w.heap.size ≤ γ ∧ hp.Blk w' γ 74 (lcs L (.slice none 0 0) (.slice ar r.length cr) q)) ⟨_, rfl⟩ (fun u w1 w2 h1 h2 => by obtain ⟨γ, he, hl, hk⟩ := h2; exact ⟨γ, he, hl, hk.on h1⟩); (focus (intro wq hq hf; have h0 := hf.get 0 rfl rfl; go_wp2; refine ⟨hq, Below.refl _ _, ?_, rfl⟩; (show ∃ γ, rel.slot _ _ = _ ∧ _; simp only [rel.slot_lit, List.getD_cons_succ, List.getD_cons_zero]; exact h0))); (intro u wu _ hu; obtain ⟨p2, rfl, -⟩ := hu; (simp only [rel.put_lit, List.set_cons_succ, List.set_cons_zero]))); (refine rel.walk_nil ?_; intro w9 K9 hF; have hu9 := hF _ (List.mem_cons_self ..); clear hF))
      obtain ⟨g, e, hgw, hB⟩ := hu9
      cases e
      have hs9 := K9.size
      have hne : w9.heap.size ≠ p2 := Nat.ne_of_gt hB.lt
      have hBl := hB.lt
      have hZ := hp.Blk.new w9 [.pointer (some ⟨gx, 0, none⟩)] 61
      have e5 := (K9.cell (p := ⟨g0, 2, none⟩) hg).trans c5
      have hg9 : g0 < w9.heap.size := by have := K9.size; omega
      have hS := hp.Blk.newAt (w := w9.alloc (.cells #[.pointer (some ⟨gx, 0, none⟩)] 61)) (cs := [.slice (some ⟨w9.heap.size, 0, none⟩) 1 1, .slice al n cl]) (t := 67) (g := w9.heap.size + 1) (by simp)
      have hbA : Below w.heap.size w ((w9.alloc (.cells #[.pointer (some ⟨gx, 0, none⟩)] 61)).alloc (.cells #[.slice (some ⟨w9.heap.size, 0, none⟩) 1 1, .slice al n cl] 67)) := by ((repeat' (first | with_reducible exact Below.refl _ _ | with_reducible apply Below.setCell | with_reducible apply below_drewN | with_reducible apply Below.drew | with_reducible apply Below.alloc | with_reducible refine Below.trans ?_ (Below.mono (by assumption) ?_))) <;> (first | (simp; done) | (simp; omega) | omega))
      have hC := C.out _ hbA p2 hgw (by simp; omega) _ _ hS (hZ.alloc _) hs9 hne
      have hB2 := (hB.alloc (.cells #[.pointer (some ⟨gx, 0, none⟩)] 61)).alloc (.cells #[.slice (some ⟨w9.heap.size, 0, none⟩) 1 1, .slice al n cl] 67)
      clear hS hZ C
      replace hbA := Lib.hid hbA
      go_wp2_with (first
        | (go_at_call 41; (with_reducible refine (S _ K9).mono ?_); clear S; rintro e w1 ⟨rfl, rfl⟩)
        | (go_at_call 33; (with_reducible refine hC.mono ?_); clear hC; rintro e w1 ⟨⟨y, rfl, hy⟩, hb1⟩; (obtain ⟨ay, ny, cy, rfl⟩ := hy.val); have hB3 := hB2.on hb1; have d5 := hB3.cell 2; have df := hB3.free; simp only [List.getElem?_cons_zero, List.getElem?_cons_succ] at d5))
      go_ret
      have hbE := (hbA.out.trans (hb1.mono hbA.out.size)).setCell (p := ⟨p2, 2, none⟩) hgw (.slice ay ny cy)
      exact ⟨⟨_, rfl, hdone.out _ p2 _ hgw hbE (hB3.set 2 _) ((hy.set (a := ⟨p2, 2, none⟩) (fun h => h.2 rfl) _).imp fun _ h => h.1)⟩, hbE⟩
    · have l4' : l.length = 4 := by omega
      obtain ⟨y0, l', rfl⟩ : ∃ y l', l = y :: l' := by
        cases l with
        | nil => simp at l1
        | cons y l' => exact ⟨y, l', rfl⟩
      obtain ⟨bl, ol, rfl, -, hbl, hcell⟩ := hcc (by omega)
      obtain ⟨py, kp, hy0⟩ := hcell 0 y0 rfl
      have l3 : l'.length = 3 := by simpa using l4'
      have hfrom := hlw.from (i := 1) (by simp)
      rw [List.drop_succ_cons, List.drop_zero, l4'] at hfrom
      obtain ⟨A', hA'⟩ : ∃ A', flat l' = A' := ⟨_, rfl⟩
      obtain ⟨AI, hAI⟩ : ∃ A, A' ++ I = A := ⟨_, rfl⟩
      have hA2 : y0.nums ++ A' = A := by rw [← hA0, flat_cons, hA']
      have hlen3 := congrArg List.length hA2
      have hlen4 := congrArg List.length hAI
      rw [List.length_append] at hlen3 hlen4
      rw [l4'] at c5 hcl
      have O := fun W (hW : Below w.heap.size w W) (g : Nat) (hg : w.heap.size ≤ g) (hgW : g < W.heap.size) =>
        over_any (Q := Not Q g) _ l' k W (fun b hb => ⟨hQ _ (by have := hW.size; omega), by omega⟩) ((hfrom.not hg).on hW) lh.tail (by omega) (by omega) A' hA' (by omega)
      have P : ∀ W (hW : Below w.heap.size w W) (g : Nat) (hg : w.heap.size ≤ g) (hgW : g < W.heap.size) (pu : Option Addr), IsN (Not Q g) W (.pointer pu) (k + 1) A' →
          Calls Try.prog 37 #[.pointer q, .pointer pu] W fun e w' => (∃ u, e = .returned u ∧ IsL (Not Q g) w' u (k + 1) AI) ∧ Below W.heap.size W w' := by
        intro W hW g hg hgW pu hu
        obtain ⟨pn, n, e, hn, hh, hnn⟩ := hu
        cases e
        exact ih (k + 1) q pu n W AI (fun b hb => ⟨hQ _ (by have := hW.size; omega), by omega⟩) ((hi.not hg).on hW) oi hn hh (by rw [hnn, hI0, hAI]) (by omega)
      have hdone : ∀ W g z u, w.heap.size ≤ g → Below w.heap.size w W → hp.Blk W g 74 (lcs L (.slice (some ⟨z, 0, none⟩) 2 2) (.slice ar r.length cr) u) → w.heap.size ≤ z → hp.Blk W z 61 [.pointer (some ⟨gx, 0, none⟩), .pointer py] → IsL Q W (.pointer u) (k + 1) AI → IsL Q W (.pointer (some ⟨g, 0, none⟩)) k L := by
        intro W g z u hg hb hB hz hZ hu
        obtain ⟨pu, t, e, ht, htk, htn⟩ := hu
        cases e
        exact IsL.deep (hQ _ hg) hB (Row.two (hx.on hb) (hy0.on hb) (hQ _ hz) hZ) (hr.on hb) ht ⟨by simp, by simp, Hts.cons hh (Hts.one lh.head)⟩ ⟨r1, r4, rh⟩ htk (by rw [flat_cons, flat_one, hX0, htn, hR0, ← hL', ← hY0, ← hA2, ← hAI]; simp)
      rw [Nat.add_zero] at kp
      replace hdone := Lib.hid hdone
      replace O := Lib.hid O
      replace P := Lib.hid P
      replace l4' := Lib.hid l4'
      clear hL hL' hbd hr hx hA0 hI0 hR0 hY0 hlen hlen2 hlen3 hlen4 ih hcc hi hlw hA' hAI hA2 hcell hy0 hfrom l3 hlt l1 l4 lh
      go_enter Try.func37, Try.ntmps37
      go_wp2_with fail
      (apply rel.region (C := fun w' => Below w.heap.size w w') (X := fun w w' => Below w.heap.size w w') (by kernel_rfl) (by kernel_rfl) (by kernel_rfl) ((Below.refl _ _).drew); (apply rel.walk_val; (focus (intro wq hq hf; go_wp2; refine ⟨hq, Below.refl _ _, ?_, rfl⟩; (show rel.slot _ _ = _; simp only [rel.slot_lit, List.getD_cons_succ, List.getD_cons_zero]; (first | done | exact rfl)))); (simp only [rel.put_lit, List.set_cons_succ, List.set_cons_zero])); (apply rel.walk_val; (focus (intro wq hq hf; go_wp2; refine ⟨hq, Below.refl _ _, ?_, rfl⟩; (show rel.slot _ _ = _; simp only [rel.slot_lit, List.getD_cons_succ, List.getD_cons_zero]; (first | done | exact rfl)))); (simp only [rel.put_lit, List.set_cons_succ, List.set_cons_zero])); (apply rel.walk_val; (focus (intro wq hq hf; go_wp2; refine ⟨hq, Below.refl _ _, ?_, rfl⟩; (show rel.slot _ _ = _; simp only [rel.slot_lit, List.getD_cons_succ, List.getD_cons_zero]; (first | done | exact rfl)))); (simp only [rel.put_lit, List.set_cons_succ, List.set_cons_zero])); ((apply rel.walk_val; (focus (intro wq hq hf; (obtain ⟨d0, d1⟩ := ((hX).below hq (hX).lt).cellsM); go_wp2; refine ⟨hq, Below.refl _ _, ?_, rfl⟩; (show rel.slot _ _ = _; simp only [rel.slot_lit, List.getD_cons_succ, List.getD_cons_zero]; (first | done | exact rfl)))); (simp only [rel.put_lit, List.set_cons_succ, List.set_cons_zero]))); (apply rel.walk_val; (focus (intro wq hq hf; go_wp2; refine ⟨hq, Below.refl _ _, ?_, rfl⟩; (show rel.slot _ _ = _; simp only [rel.slot_lit, List.getD_cons_succ, List.getD_cons_zero]; (first | done | exact rfl)))); (simp only [rel.put_lit, List.set_cons_succ, List.set_cons_zero])); (apply rel.walk_val; (focus (intro wq hq hf; go_wp2; refine ⟨hq, Below.refl _ _, ?_, rfl⟩; (show rel.slot _ _ = _; simp only [rel.slot_lit, List.getD_cons_succ, List.getD_cons_zero]; (first | done | exact rfl)))); (simp only [rel.put_lit, List.set_cons_succ, List.set_cons_zero])); (apply rel.walk_val; (focus (intro wq hq hf; go_wp2; refine ⟨hq, Below.refl _ _, ?_, rfl⟩; (show rel.slot _ _ = _; simp only [rel.slot_lit, List.getD_cons_succ, List.getD_cons_zero]; (first | done | exact rfl)))); (simp only [rel.put_lit, List.set_cons_succ, List.set_cons_zero])); (apply rel.walk_val; (focus (intro wq hq hf; go_wp2; refine ⟨hq, Below.refl _ _, ?_, rfl⟩; (show rel.slot _ _ = _; simp only [rel.slot_lit, List.getD_cons_succ, List.getD_cons_zero]; (first | done | exact rfl)))); (simp only [rel.put_lit, List.set_cons_succ, List.set_cons_zero])); ((apply rel.walk_val; (focus (intro wq hq hf; (obtain ⟨d0, d1⟩ := ((hk).below hq (hk).lt).cellsM); go_wp2; refine ⟨hq, Below.refl _ _, ?_, rfl⟩; (show rel.slot _ _ = _; simp only [rel.slot_lit, List.getD_cons_succ, List.getD_cons_zero]; (first | done | exact rfl)))); (simp only [rel.put_lit, List.set_cons_succ, List.set_cons_zero]))); (apply rel.walk_val; (focus (intro wq hq hf; go_wp2_with (go_at_call 67; refine (J _).mono ?_; rintro e w'' ⟨rfl, hb⟩); refine ⟨hq.trans (hb.mono hq.size), hb, ?_, rfl⟩; (show rel.slot _ _ = _; simp only [rel.slot_lit, List.getD_cons_succ, List.getD_cons_zero]; (first | done | exact rfl)))); (simp only [rel.put_lit, List.set_cons_succ, List.set_cons_zero])); (apply rel.walk_val; (focus (intro wq hq hf; go_wp2; refine ⟨hq, Below.refl _ _, ?_, rfl⟩; (show rel.slot _ _ = _; simp only [rel.slot_lit, List.getD_cons_succ, List.getD_cons_zero]; (first | done | exact rfl)))); (simp only [rel.put_lit, List.set_cons_succ, List.set_cons_zero])); (apply rel.walk_val; (focus (intro wq hq hf; go_wp2; refine ⟨hq, Below.refl _ _, ?_, rfl⟩; (show rel.slot _ _ = _; simp only [rel.slot_lit, List.getD_cons_succ, List.getD_cons_zero]; (first | done | exact rfl)))); (simp only [rel.put_lit, List.set_cons_succ, List.set_cons_zero])); (apply rel.walk_val; (focus (intro wq hq hf; go_wp2; refine ⟨hq, Below.refl _ _, ?_, rfl⟩; (show rel.slot _ _ = _; simp only [rel.slot_lit, List.getD_cons_succ, List.getD_cons_zero]; (first | done | exact rfl)))); (simp only [rel.put_lit, List.set_cons_succ, List.set_cons_zero])); ((apply rel.walk_val; (focus (intro wq hq hf; (have d0 := (hq.cell (p := ⟨g0, 4, none⟩) hg).trans c7); go_wp2; refine ⟨hq, Below.refl _ _, ?_, rfl⟩; (show rel.slot _ _ = _; simp only [rel.slot_lit, List.getD_cons_succ, List.getD_cons_zero]; (first | done | exact rfl)))); (simp only [rel.put_lit, List.set_cons_succ, List.set_cons_zero]))); (apply rel.walk_val; (focus (intro wq hq hf; go_wp2; refine ⟨hq, Below.refl _ _, ?_, rfl⟩; (show rel.slot _ _ = _; simp only [rel.slot_lit, List.getD_cons_succ, List.getD_cons_zero]; (first | done | exact rfl)))); (simp only [rel.put_lit, List.set_cons_succ, List.set_cons_zero])); (apply rel.walk_val; (focus (intro wq hq hf; go_wp2; refine ⟨hq, Below.refl _ _, ?_, rfl⟩; (show rel.slot _ _ = _; simp only [rel.slot_lit, List.getD_cons_succ, List.getD_cons_zero]; (first | done | exact rfl)))); (simp only [rel.put_lit, List.set_cons_succ, List.set_cons_zero])); (apply rel.walk_val; (focus (intro wq hq hf; go_wp2; refine ⟨hq, Below.refl _ _, ?_, rfl⟩; (show rel.slot _ _ = _; simp only [rel.slot_lit, List.getD_cons_succ, List.getD_cons_zero]; (first | done | exact rfl)))); (simp only [rel.put_lit, List.set_cons_succ, List.set_cons_zero])); ((apply rel.walk_val; (focus (intro wq hq hf; (have d0 := (hq.cell (p := ⟨g0, 3, none⟩) hg).trans c6); go_wp2; refine ⟨hq, Below.refl _ _, ?_, rfl⟩; (show rel.slot _ _ = _; simp only [rel.slot_lit, List.getD_cons_succ, List.getD_cons_zero]; (first | done | exact rfl)))); (simp only [rel.put_lit, List.set_cons_succ, List.set_cons_zero]))); (apply rel.walk_val; (focus (intro wq hq hf; go_wp2; refine ⟨hq, Below.refl _ _, ?_, rfl⟩; (show rel.slot _ _ = _; simp only [rel.slot_lit, List.getD_cons_succ, List.getD_cons_zero]; (first | done | exact rfl)))); (simp only [rel.put_lit, List.set_cons_succ, List.set_cons_zero])); (apply rel.walk_rel (fun u w' => ∃ γ, u = .pointer (some ⟨γ, 0, none⟩) ∧ w.heap.size ≤ γ ∧ hp.Blk w' γ 74 (lcs L (.slice none 0 0) (.slice ar r.length cr) q)) ⟨_, rfl⟩ (fun u w1 w2 h1 h2 => by obtain ⟨γ, he, hl, hk⟩ := h2; exact ⟨γ, he, hl, hk.on h1⟩); (focus (intro wq hq hf; go_wp2; refine ⟨hq.alloc hq.size _, (Below.refl _ _).alloc (Nat.le_refl _) _, ?_, rfl⟩; (show ∃ γ, rel.slot _ _ = _ ∧ _; simp only [rel.slot_lit, List.getD_cons_succ, List.getD_cons_zero]; exact ⟨_, rfl, hq.size, hp.Blk.new _ _ _⟩))); (intro u wu _ hu; obtain ⟨p1, rfl, -⟩ := hu; (simp only [rel.put_lit, List.set_cons_succ, List.set_cons_zero]))); (apply rel.walk_rel (fun u w' => ∃ γ, u = .pointer (some ⟨γ, 0, none⟩) ∧ w.heap.size ≤ γ ∧ hp.Blk w' γ 74 (lcs L (.slice none 0 0) (.slice ar r.length cr) q)) ⟨_, rfl⟩ (fun u w1 w2 h1 h2 => by obtain ⟨γ, he, hl, hk⟩ := h2; exact ⟨γ, he, hl, hk.on h1⟩); (focus (intro wq hq hf; have h0 := hf.get 0 rfl rfl; go_wp2; refine ⟨hq, Below.refl _ _, ?_, rfl⟩; (show ∃ γ, rel.slot _ _ = _ ∧ _; simp only [rel.slot_lit, List.getD_cons_succ, List.getD_cons_zero]; exact h0))); (intro u wu _ hu; obtain ⟨p2, rfl, -⟩ := hu; (simp only [rel.put_lit, List.set_cons_succ, List.set_cons_zero]))); (refine rel.walk_nil ?_; intro w9 K9 hF; have hu9 := hF _ (List.mem_cons_self ..); clear hF))
      obtain ⟨g, e, hgw, hB⟩ := hu9
      cases e
      have hs9 := K9.size
      have hne : w9.heap.size ≠ p2 := Nat.ne_of_gt hB.lt
      have hpl := hB.lt
      have e5 := (K9.cell (p := ⟨g0, 2, none⟩) hg).trans c5
      have ep := (K9.cell (p := ⟨bl, ol, none⟩) hbl).trans kp
      have hg9 : g0 < w9.heap.size := by omega
      have hbl9 : bl < w9.heap.size := by omega
      obtain ⟨W, hW⟩ : ∃ W, (w9.alloc (.cells #[.pointer (some ⟨gx, 0, none⟩), .pointer py] 61)).setCell ⟨p2, 2, none⟩ (.slice (some ⟨w9.heap.size, 0, none⟩) 2 2) = W := ⟨_, rfl⟩
      have hB1 := hB.alloc (.cells #[.pointer (some ⟨gx, 0, none⟩), .pointer py] 61)
      have d5 := hB1.cell 2
      have df := hB1.free
      simp only [List.getElem?_cons_zero, List.getElem?_cons_succ] at d5
      have hB2 : hp.Blk W p2 74 (lcs L (.slice (some ⟨w9.heap.size, 0, none⟩) 2 2) (.slice ar r.length cr) q) := by rw [← hW]; exact hB1.set 2 _
      have hZ2 : hp.Blk W w9.heap.size 61 [.pointer (some ⟨gx, 0, none⟩), .pointer py] := by rw [← hW]; exact (hp.Blk.new w9 [.pointer (some ⟨gx, 0, none⟩), .pointer py] 61).other (a := ⟨p2, 2, none⟩) hne _
      have hbW : Below w.heap.size w W := by rw [← hW]; ((repeat' (first | with_reducible exact Below.refl _ _ | with_reducible apply Below.setCell | with_reducible apply below_drewN | with_reducible apply Below.drew | with_reducible apply Below.alloc | with_reducible refine Below.trans ?_ (Below.mono (by assumption) ?_))) <;> (first | (simp; done) | (simp; omega) | omega))
      have hsW := hbW.size
      have hgW : g0 < W.heap.size := by omega
      have a7 := (hbW.cell (p := ⟨g0, 4, none⟩) hg).trans c7
      have a5 := (hbW.cell (p := ⟨g0, 2, none⟩) hg).trans c5
      have O' := fun V (h : Below W.heap.size W V) => O.out V (hbW.trans (h.mono hsW)) p2 hgw (by have := hB2.lt; have := h.size; omega)
      have P' := fun V (h : Below W.heap.size W V) => P.out V (hbW.trans (h.mono hsW)) p2 hgw (by have := hB2.lt; have := h.size; omega)
      clear O P
      go_wp2_with (go_at_call 41; (with_reducible refine (S _ K9).mono ?_); clear S; rintro e w1 ⟨rfl, rfl⟩)
      clear hW hB hB1 d5 df e5 ep hpl
      apply rel.region_tail (C := fun w' => Below W.heap.size W w') (X := fun w w' => Below w.heap.size w w') 14 (by kernel_rfl) (by kernel_rfl) (by kernel_rfl) (by kernel_rfl) ((Below.refl _ _).drew)
      (apply rel.walk_val; (focus (intro wq hq hf; go_wp2; refine ⟨hq, Below.refl _ _, ?_, rfl⟩; (show rel.slot _ _ = _; simp only [rel.slot_lit, List.getD_cons_succ, List.getD_cons_zero]; (first | done | exact rfl)))); (simp only [rel.put_lit, List.set_cons_succ, List.set_cons_zero]))
      (apply rel.walk_val; (focus (intro wq hq hf; go_wp2; refine ⟨hq, Below.refl _ _, ?_, rfl⟩; (show rel.slot _ _ = _; simp only [rel.slot_lit, List.getD_cons_succ, List.getD_cons_zero]; (first | done | exact rfl)))); (simp only [rel.put_lit, List.set_cons_succ, List.set_cons_zero]))
      (apply rel.walk_val; (focus (intro wq hq hf; go_wp2; refine ⟨hq, Below.refl _ _, ?_, rfl⟩; (show rel.slot _ _ = _; simp only [rel.slot_lit, List.getD_cons_succ, List.getD_cons_zero]; (first | done | exact rfl)))); (simp only [rel.put_lit, List.set_cons_succ, List.set_cons_zero]))
      (apply rel.walk_val; (focus (intro wq hq hf; go_wp2; refine ⟨hq, Below.refl _ _, ?_, rfl⟩; (show rel.slot _ _ = _; simp only [rel.slot_lit, List.getD_cons_succ, List.getD_cons_zero]; (first | done | exact rfl)))); (simp only [rel.put_lit, List.set_cons_succ, List.set_cons_zero]))
      ((apply rel.walk_val; (focus (intro wq hq hf; (have d0 := (hq.cell (p := ⟨g0, 4, none⟩) hgW).trans a7); go_wp2; refine ⟨hq, Below.refl _ _, ?_, rfl⟩; (show rel.slot _ _ = _; simp only [rel.slot_lit, List.getD_cons_succ, List.getD_cons_zero]; (first | done | exact rfl)))); (simp only [rel.put_lit, List.set_cons_succ, List.set_cons_zero])))
      (apply rel.walk_val; (focus (intro wq hq hf; go_wp2; refine ⟨hq, Below.refl _ _, ?_, rfl⟩; (show rel.slot _ _ = _; simp only [rel.slot_lit, List.getD_cons_succ, List.getD_cons_zero]; (first | done | exact rfl)))); (simp only [rel.put_lit, List.set_cons_succ, List.set_cons_zero]))
      (apply rel.walk_val; (focus (intro wq hq hf; go_wp2; refine ⟨hq, Below.refl _ _, ?_, rfl⟩; (show rel.slot _ _ = _; simp only [rel.slot_lit, List.getD_cons_succ, List.getD_cons_zero]; (first | done | exact rfl)))); (simp only [rel.put_lit, List.set_cons_succ, List.set_cons_zero]))
      (apply rel.walk_val; (focus (intro wq hq hf; go_wp2; refine ⟨hq, Below.refl _ _, ?_, rfl⟩; (show rel.slot _ _ = _; simp only [rel.slot_lit, List.getD_cons_succ, List.getD_cons_zero]; (first | done | exact rfl)))); (simp only [rel.put_lit, List.set_cons_succ, List.set_cons_zero]))
      ((apply rel.walk_val; (focus (intro wq hq hf; (have d0 := (hq.cell (p := ⟨g0, 2, none⟩) hgW).trans a5); go_wp2; refine ⟨hq, Below.refl _ _, ?_, rfl⟩; (show rel.slot _ _ = _; simp only [rel.slot_lit, List.getD_cons_succ, List.getD_cons_zero]; (first | done | exact rfl)))); (simp only [rel.put_lit, List.set_cons_succ, List.set_cons_zero])))
      (apply rel.walk_val; (focus (intro wq hq hf; go_wp2; refine ⟨hq, Below.refl _ _, ?_, rfl⟩; (show rel.slot _ _ = _; simp only [rel.slot_lit, List.getD_cons_succ, List.getD_cons_zero]; (first | done | exact rfl)))); (simp only [rel.put_lit, List.set_cons_succ, List.set_cons_zero]))
      (apply rel.walk_rel (fun u w' => pri.IsN (Not Q p2) w' u (k + 1) (A')) ⟨_, rfl⟩ (fun u w1 w2 h1 h2 => h2.on h1); (focus (intro wq hq hf; go_wp2_with (go_at_call 34; with_reducible refine (O' _ hq).mono ?_; rintro e w'' ⟨⟨u, rfl, hu⟩, hb⟩); refine ⟨hq.trans (hb.mono hq.size), hb, ?_, rfl⟩; (show pri.IsN _ _ (rel.slot _ _) _ _; simp only [rel.slot_lit, List.getD_cons_succ, List.getD_cons_zero]; exact hu))); (intro u wu _ hu; obtain ⟨pn, t_pn, rfl, -⟩ := hu; (simp only [rel.put_lit, List.set_cons_succ, List.set_cons_zero])))
      (apply rel.walk_rel (fun u w' => pri.IsL (Not Q p2) w' u (k + 1) (AI)) ⟨_, rfl⟩ (fun u w1 w2 h1 h2 => h2.on h1); (focus (intro wq hq hf; go_wp2_with (go_at_call 37; with_reducible refine (P' _ hq _ (hf.get 0 rfl rfl)).mono ?_; rintro e w'' ⟨⟨u, rfl, hu⟩, hb⟩); refine ⟨hq.trans (hb.mono hq.size), hb, ?_, rfl⟩; (show pri.IsL _ _ (rel.slot _ _) _ _; simp only [rel.slot_lit, List.getD_cons_succ, List.getD_cons_zero]; exact hu))); (intro u wu _ hu; obtain ⟨pu, t_pu, rfl, -⟩ := hu; (simp only [rel.put_lit, List.set_cons_succ, List.set_cons_zero])))
      (apply rel.walk_val; (focus (intro wq hq hf; go_wp2; refine ⟨hq, Below.refl _ _, ?_, rfl⟩; (show rel.slot _ _ = _; simp only [rel.slot_lit, List.getD_cons_succ, List.getD_cons_zero]; (first | done | exact rfl)))); (simp only [rel.put_lit, List.set_cons_succ, List.set_cons_zero]))
      (apply rel.walk_val; (focus (intro wq hq hf; go_wp2; refine ⟨hq, Below.refl _ _, ?_, rfl⟩; (show rel.slot _ _ = _; simp only [rel.slot_lit, List.getD_cons_succ, List.getD_cons_zero]; (first | done | exact rfl)))); (simp only [rel.put_lit, List.set_cons_succ, List.set_cons_zero]))
      (refine rel.walk_nil ?_; intro w9 K9 hF; have hu9 := hF _ (List.mem_cons_self ..); clear hF)
      have hB3 := hB2.on K9
      have d7 := hB3.cell 4
      have df := hB3.free
      simp only [List.getElem?_cons_zero, List.getElem?_cons_succ] at d7
      have hbE := (hbW.trans (K9.mono hsW)).setCell (p := ⟨p2, 4, none⟩) hgw (.pointer pu)
      have hZ3 := (hZ2.on K9).other (a := ⟨p2, 4, none⟩) hne (.pointer pu)
      have hE := hdone.out _ p2 _ _ hgw hbE (hB3.set 4 _) hs9 hZ3 ((hu9.set (a := ⟨p2, 4, none⟩) (fun h => h.2 rfl) _).imp fun _ h => h.1)
      replace hbE := Lib.hid hbE
      replace hE := Lib.hid hE
      clear hZ3 hdone hu9 O' P' hB2 hB3 a5 a7
      simp only [List.drop_succ_cons, List.drop_zero]
      go_wp2_with fail
      go_ret
      exact ⟨⟨_, rfl, hE.out⟩, hbE.out⟩
end Go.Proofs.Ytfbeiimmcemniaa.pri
