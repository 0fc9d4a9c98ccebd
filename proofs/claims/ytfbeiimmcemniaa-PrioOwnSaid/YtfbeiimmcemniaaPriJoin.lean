/- Package measured: join. -/
import Derived.Test.YtfbeiimmcemniaaPriPop
namespace Go.Proofs.Ytfbeiimmcemniaa.pri
open Go Go.RowKit

/-- groups of two or three -/
def IsGr (Q : Nat → Prop) (W : World) (u : Value) (k : Nat) (M : List (Int × Int)) : Prop := ∃ gs, Row Q W u gs ∧ Hts k gs ∧ 1 ≤ gs.length ∧ gs.length ≤ 4 ∧ flat gs = M
section
variable {Q : Nat → Prop} {w w' : World} {u : Value} {k : Nat} {M : List (Int × Int)}
theorem IsGr.on (h : IsGr Q w u k M) (hb : Below w.heap.size w w') : IsGr Q w' u k M := let ⟨gs, h1, h2⟩ := h; ⟨gs, h1.on hb, h2⟩
theorem IsGr.val (h : IsGr Q w u k M) : ∃ a n c, u = .slice a n c := let ⟨_, h1, _⟩ := h; h1.val
end
theorem blk_ex {w : World} {t : TypeId} {n : Nat} {cs : List Value} {g : Nat} (h : ∃ γ, (.slice (some ⟨g, 0, none⟩) n n : Value) = .slice (some ⟨γ, 0, none⟩) n n ∧ hp.Blk w γ t cs) : hp.Blk w g t cs := by
  obtain ⟨γ, e, h⟩ := h
  cases e
  exact h

set_option maxRecDepth 100000 in
set_option maxHeartbeats 8000000 in
theorem join_any : ∀ (a : Lv) {Q : Nat → Prop} (b : Lv) (k : Nat) (pa pb : Option Addr) (v : Value) (ns : List Nd) (w : World) (L : List (Int × Int)), (∀ b, w.heap.size ≤ b → Q b) → Lev Q w a pa → Lv.Ok k a → Lev Q w b pb → Lv.Ok k b → Row Q w v ns → Hts k ns → ns.length ≤ 4 → a.nums ++ flat ns ++ b.nums = L → L.length ≤ 4611686018427387904 →
    Calls Try.prog 28 #[.pointer pa, v, .pointer pb] w fun e w' => (∃ u, e = .returned u ∧ IsL Q w' u k L) ∧ Below w.heap.size w w' := by
  intro a
  induction a with
  | nil =>
    intro Q b k pa pb v ns w L hQ ha oa hb ob hr hk h4 hL hbd
    obtain rfl : pa = none := ha
    have H := pushAllLeft_any k pb v ns b.nums L w hQ ⟨_, b, rfl, hb, ob, rfl⟩ hr hk (by omega) (by rw [← hL]; rfl) hbd
    clear hb hr hL
    go_enter Try.func28, Try.ntmps28
    go_wp2_with (go_at_call 39; (with_reducible refine H.mono ?_); clear H; rintro e w1 ⟨⟨q, rfl, hq⟩, hb1⟩)
    go_ret
    exact ⟨⟨_, rfl, hq⟩, hb1⟩
  | one x =>
    intro Q b k pa pb v ns w L hQ ha oa hb ob hr hk h4 hL hbd
    have S := isSingle_one ha
    have hA : IsL Q w (.pointer pa) k x.nums := ⟨_, _, rfl, ha, oa, rfl⟩
    obtain ⟨g, u, rfl, -, hkg, hu⟩ := ha
    by_cases hbn : b = .nil
    · subst hbn
      obtain rfl : pb = none := hb
      have H := pushAllRight_any k _ v ns x.nums L w hQ hA hr hk (by omega) (by rw [← hL]; simp [Lv.nums]) hbd
      have hg := hkg.lt
      clear hr hL hkg S hu hA
      go_enter Try.func28, Try.ntmps28
      go_wp2_with (go_at_call 40; (with_reducible refine H.mono ?_); clear H; rintro e w1 ⟨⟨q, rfl, hq⟩, hb1⟩)
      go_ret
      exact ⟨⟨_, rfl, hq⟩, hb1⟩
    · obtain ⟨gb, ub, vb, qb, rfl, hgb, hkb⟩ := hb.first hbn
      obtain ⟨a, c, rfl, -, -, hcell⟩ := hu.cells
      obtain ⟨bl, off, rfl, -, hbl, hcell⟩ := hcell (by simp)
      obtain ⟨px, kp, hx⟩ := hcell 0 x rfl
      rw [Nat.add_zero] at kp
      obtain ⟨M, hM⟩ : ∃ M, flat ns ++ b.nums = M := ⟨_, rfl⟩
      have hXM : x.nums ++ M = L := by rw [← hL, ← hM]; simp [Lv.nums]
      have hMb : M.length ≤ 4611686018427387904 := by have := congrArg List.length hXM; simp at this; omega
      have H1 := fun W (K : Below w.heap.size w W) => pushAllLeft_any k _ v ns b.nums M W (fun b h => hQ b (Nat.le_trans K.size h)) ⟨_, b, rfl, hb.on K, ob, rfl⟩ (hr.on K) hk (by omega) hM hMb
      have H2 := fun W (K : Below w.heap.size w W) (p : Option Addr) (h : IsL Q W (.pointer p) k M) => push_l (px := px) L (fun b h => hQ b (Nat.le_trans K.size h)) h ⟨_, x, rfl, hx.on K, oa, rfl⟩ hXM hbd
      have hg := hkg.lt
      have c5 := hkg.cell 2
      simp only [List.getElem?_cons_zero, List.getElem?_cons_succ] at c5
      clear hr hL hkg hu hA hcell hx hb hM hXM hMb hkb
      go_enter Try.func28, Try.ntmps28
      go_wp2_with (go_at_call 41; (with_reducible refine S.mono ?_); clear S; rintro e w1 ⟨rfl, rfl⟩)
      apply rel.region (C := fun w' => Below w.heap.size w w') (X := fun w w' => Below w.heap.size w w') (by kernel_rfl) (by kernel_rfl) (by kernel_rfl) ((Below.refl _ _).drew)
      (apply rel.walk_val; (focus (intro wq hq hf; go_wp2; refine ⟨hq, Below.refl _ _, ?_, rfl⟩; (show rel.slot _ _ = _; simp only [rel.slot_lit, List.getD_cons_succ, List.getD_cons_zero]; (first | done | exact rfl)))); (simp only [rel.put_lit, List.set_cons_succ, List.set_cons_zero]))
      (apply rel.walk_val; (focus (intro wq hq hf; go_wp2; refine ⟨hq, Below.refl _ _, ?_, rfl⟩; (show rel.slot _ _ = _; simp only [rel.slot_lit, List.getD_cons_succ, List.getD_cons_zero]; (first | done | exact rfl)))); (simp only [rel.put_lit, List.set_cons_succ, List.set_cons_zero]))
      (apply rel.walk_rel (fun u w' => pri.IsL Q w' u (k) (M)) ⟨_, rfl⟩ (fun u w1 w2 h1 h2 => h2.on h1); (focus (intro wq hq hf; go_wp2_with (go_at_call 39; with_reducible refine (H1 _ hq).mono ?_; rintro e w'' ⟨⟨u, rfl, hu⟩, hb⟩); refine ⟨hq.trans (hb.mono hq.size), hb, ?_, rfl⟩; (show pri.IsL _ _ (rel.slot _ _) _ _; simp only [rel.slot_lit, List.getD_cons_succ, List.getD_cons_zero]; exact hu))); (intro u wu _ hu; obtain ⟨pu, t_pu, rfl, -⟩ := hu; (simp only [rel.put_lit, List.set_cons_succ, List.set_cons_zero])))
      (apply rel.walk_val; (focus (intro wq hq hf; go_wp2; refine ⟨hq, Below.refl _ _, ?_, rfl⟩; (show rel.slot _ _ = _; simp only [rel.slot_lit, List.getD_cons_succ, List.getD_cons_zero]; (first | done | exact rfl)))); (simp only [rel.put_lit, List.set_cons_succ, List.set_cons_zero]))
      (apply rel.walk_val; (focus (intro wq hq hf; go_wp2; refine ⟨hq, Below.refl _ _, ?_, rfl⟩; (show rel.slot _ _ = _; simp only [rel.slot_lit, List.getD_cons_succ, List.getD_cons_zero]; (first | done | exact rfl)))); (simp only [rel.put_lit, List.set_cons_succ, List.set_cons_zero]))
      (apply rel.walk_val; (focus (intro wq hq hf; go_wp2; refine ⟨hq, Below.refl _ _, ?_, rfl⟩; (show rel.slot _ _ = _; simp only [rel.slot_lit, List.getD_cons_succ, List.getD_cons_zero]; (first | done | exact rfl)))); (simp only [rel.put_lit, List.set_cons_succ, List.set_cons_zero]))
      ((apply rel.walk_val; (focus (intro wq hq hf; (have d0 := (hq.cell (p := ⟨g, 2, none⟩) hg).trans c5); go_wp2; refine ⟨hq, Below.refl _ _, ?_, rfl⟩; (show rel.slot _ _ = _; simp only [rel.slot_lit, List.getD_cons_succ, List.getD_cons_zero]; (first | done | exact rfl)))); (simp only [rel.put_lit, List.set_cons_succ, List.set_cons_zero])))
      (apply rel.walk_val; (focus (intro wq hq hf; go_wp2; refine ⟨hq, Below.refl _ _, ?_, rfl⟩; (show rel.slot _ _ = _; simp only [rel.slot_lit, List.getD_cons_succ, List.getD_cons_zero]; (first | done | exact rfl)))); (simp only [rel.put_lit, List.set_cons_succ, List.set_cons_zero]))
      ((apply rel.walk_val; (focus (intro wq hq hf; (have d0 := (hq.cell (p := ⟨bl, off, none⟩) hbl).trans kp); go_wp2; refine ⟨hq, Below.refl _ _, ?_, rfl⟩; (show rel.slot _ _ = _; simp only [rel.slot_lit, List.getD_cons_succ, List.getD_cons_zero]; (first | done | exact rfl)))); (simp only [rel.put_lit, List.set_cons_succ, List.set_cons_zero])))
      (apply rel.walk_rel (fun u w' => pri.IsL Q w' u (k) (L)) ⟨_, rfl⟩ (fun u w1 w2 h1 h2 => h2.on h1); (focus (intro wq hq hf; go_wp2_with (go_at_call 37; with_reducible refine (H2 _ hq _ (hf.get 0 rfl rfl)).mono ?_; rintro e w'' ⟨⟨u, rfl, hu⟩, hb⟩); refine ⟨hq.trans (hb.mono hq.size), hb, ?_, rfl⟩; (show pri.IsL _ _ (rel.slot _ _) _ _; simp only [rel.slot_lit, List.getD_cons_succ, List.getD_cons_zero]; exact hu))); (intro u wu _ hu; obtain ⟨pv, t_pv, rfl, -⟩ := hu; (simp only [rel.put_lit, List.set_cons_succ, List.set_cons_zero])))
      (apply rel.walk_rel (fun u w' => pri.IsL Q w' u (k) (L)) ⟨_, rfl⟩ (fun u w1 w2 h1 h2 => h2.on h1); (focus (intro wq hq hf; have h0 := hf.get 0 rfl rfl; go_wp2; refine ⟨hq, Below.refl _ _, ?_, rfl⟩; (show pri.IsL _ _ (rel.slot _ _) _ _; simp only [rel.slot_lit, List.getD_cons_succ, List.getD_cons_zero]; exact h0))); (intro u wu _ hu; obtain ⟨pz, t_pz, rfl, -⟩ := hu; (simp only [rel.put_lit, List.set_cons_succ, List.set_cons_zero])))
      (refine rel.walk_nil ?_; intro w9 K9 hF; have hu9 := hF _ (List.mem_cons_self ..); clear hF)
      go_wp2
      go_ret
      exact ⟨⟨_, rfl, hu9⟩, K9⟩
  | deep l i r ih =>
    intro Q b k pa pb v ns w L hQ ha oa hb ob hr hk h4 hL hbd
    have hA : IsL Q w (.pointer pa) k (Lv.deep l i r).nums := ⟨_, _, rfl, ha, oa, rfl⟩
    obtain ⟨⟨l1, l4, lh⟩, ⟨r1, r4, rh⟩, oi⟩ := oa
    have S := isSingle_deep ha r1
    obtain ⟨g, u, z, q, rfl, -, hkg, hul, hzr, hi⟩ := ha
    have hg := hkg.lt
    rcases b with _ | y | ⟨l', i', r'⟩
    · obtain rfl : pb = none := hb
      have H := pushAllRight_any k _ v ns _ L w hQ hA hr hk (by omega) (by rw [← hL]; simp [Lv.nums]) hbd
      clear hr hL hkg S hul hzr hi hA ih
      go_enter Try.func28, Try.ntmps28
      go_wp2_with (go_at_call 40; (with_reducible refine H.mono ?_); clear H; rintro e w1 ⟨⟨q, rfl, hq⟩, hb1⟩)
      go_ret
      exact ⟨⟨_, rfl, hq⟩, hb1⟩
    · have S' := isSingle_one hb
      obtain ⟨gb, ub, rfl, -, hkb, hub⟩ := hb
      obtain ⟨a, c, rfl, -, -, hcell⟩ := hub.cells
      obtain ⟨bl, off, rfl, -, hbl, hcell⟩ := hcell (by simp)
      obtain ⟨px, kp, hx⟩ := hcell 0 y rfl
      rw [Nat.add_zero] at kp
      obtain ⟨A, hA0⟩ : ∃ M, (Lv.deep l i r).nums = M := ⟨_, rfl⟩
      rw [hA0] at hA hL
      obtain ⟨M, hM⟩ : ∃ M, A ++ flat ns = M := ⟨_, rfl⟩
      have hXM : M ++ y.nums = L := by rw [← hL, ← hM]; simp [Lv.nums]
      have hMb : M.length ≤ 4611686018427387904 := by have := congrArg List.length hXM; simp at this; omega
      have H1 := fun W (K : Below w.heap.size w W) => pushAllRight_any k _ v ns A M W (fun b h => hQ b (Nat.le_trans K.size h)) (hA.on K) (hr.on K) hk (by omega) hM hMb
      have H2 := fun W (K : Below w.heap.size w W) (p : Option Addr) (h : IsL Q W (.pointer p) k M) => push_r (px := px) L (fun b h => hQ b (Nat.le_trans K.size h)) h ⟨_, y, rfl, hx.on K, ob, rfl⟩ hXM hbd
      have hg' := hkb.lt
      have c5 := hkb.cell 2
      simp only [List.getElem?_cons_zero, List.getElem?_cons_succ] at c5
      clear hr hL hkg hul hzr hi hA ih hub hcell hx hM hXM hMb hkb hA0
      go_enter Try.func28, Try.ntmps28
      go_wp2_with (first
        | (go_at_call 41; (with_reducible refine S.mono ?_); clear S; rintro e w1 ⟨rfl, rfl⟩)
        | (go_at_call 41; (with_reducible refine S'.mono ?_); clear S'; rintro e w1 ⟨rfl, rfl⟩))
      apply rel.region (C := fun w' => Below w.heap.size w w') (X := fun w w' => Below w.heap.size w w') (by kernel_rfl) (by kernel_rfl) (by kernel_rfl) ((Below.refl _ _).drew)
      (apply rel.walk_val; (focus (intro wq hq hf; go_wp2; refine ⟨hq, Below.refl _ _, ?_, rfl⟩; (show rel.slot _ _ = _; simp only [rel.slot_lit, List.getD_cons_succ, List.getD_cons_zero]; (first | done | exact rfl)))); (simp only [rel.put_lit, List.set_cons_succ, List.set_cons_zero]))
      (apply rel.walk_val; (focus (intro wq hq hf; go_wp2; refine ⟨hq, Below.refl _ _, ?_, rfl⟩; (show rel.slot _ _ = _; simp only [rel.slot_lit, List.getD_cons_succ, List.getD_cons_zero]; (first | done | exact rfl)))); (simp only [rel.put_lit, List.set_cons_succ, List.set_cons_zero]))
      (apply rel.walk_rel (fun u w' => pri.IsL Q w' u (k) (M)) ⟨_, rfl⟩ (fun u w1 w2 h1 h2 => h2.on h1); (focus (intro wq hq hf; go_wp2_with (go_at_call 40; with_reducible refine (H1 _ hq).mono ?_; rintro e w'' ⟨⟨u, rfl, hu⟩, hb⟩); refine ⟨hq.trans (hb.mono hq.size), hb, ?_, rfl⟩; (show pri.IsL _ _ (rel.slot _ _) _ _; simp only [rel.slot_lit, List.getD_cons_succ, List.getD_cons_zero]; exact hu))); (intro u wu _ hu; obtain ⟨pu, t_pu, rfl, -⟩ := hu; (simp only [rel.put_lit, List.set_cons_succ, List.set_cons_zero])))
      (apply rel.walk_val; (focus (intro wq hq hf; go_wp2; refine ⟨hq, Below.refl _ _, ?_, rfl⟩; (show rel.slot _ _ = _; simp only [rel.slot_lit, List.getD_cons_succ, List.getD_cons_zero]; (first | done | exact rfl)))); (simp only [rel.put_lit, List.set_cons_succ, List.set_cons_zero]))
      (apply rel.walk_val; (focus (intro wq hq hf; go_wp2; refine ⟨hq, Below.refl _ _, ?_, rfl⟩; (show rel.slot _ _ = _; simp only [rel.slot_lit, List.getD_cons_succ, List.getD_cons_zero]; (first | done | exact rfl)))); (simp only [rel.put_lit, List.set_cons_succ, List.set_cons_zero]))
      (apply rel.walk_val; (focus (intro wq hq hf; go_wp2; refine ⟨hq, Below.refl _ _, ?_, rfl⟩; (show rel.slot _ _ = _; simp only [rel.slot_lit, List.getD_cons_succ, List.getD_cons_zero]; (first | done | exact rfl)))); (simp only [rel.put_lit, List.set_cons_succ, List.set_cons_zero]))
      ((apply rel.walk_val; (focus (intro wq hq hf; (have d0 := (hq.cell (p := ⟨gb, 2, none⟩) hg').trans c5); go_wp2; refine ⟨hq, Below.refl _ _, ?_, rfl⟩; (show rel.slot _ _ = _; simp only [rel.slot_lit, List.getD_cons_succ, List.getD_cons_zero]; (first | done | exact rfl)))); (simp only [rel.put_lit, List.set_cons_succ, List.set_cons_zero])))
      (apply rel.walk_val; (focus (intro wq hq hf; go_wp2; refine ⟨hq, Below.refl _ _, ?_, rfl⟩; (show rel.slot _ _ = _; simp only [rel.slot_lit, List.getD_cons_succ, List.getD_cons_zero]; (first | done | exact rfl)))); (simp only [rel.put_lit, List.set_cons_succ, List.set_cons_zero]))
      ((apply rel.walk_val; (focus (intro wq hq hf; (have d0 := (hq.cell (p := ⟨bl, off, none⟩) hbl).trans kp); go_wp2; refine ⟨hq, Below.refl _ _, ?_, rfl⟩; (show rel.slot _ _ = _; simp only [rel.slot_lit, List.getD_cons_succ, List.getD_cons_zero]; (first | done | exact rfl)))); (simp only [rel.put_lit, List.set_cons_succ, List.set_cons_zero])))
      (apply rel.walk_rel (fun u w' => pri.IsL Q w' u (k) (L)) ⟨_, rfl⟩ (fun u w1 w2 h1 h2 => h2.on h1); (focus (intro wq hq hf; go_wp2_with (go_at_call 23; with_reducible refine (H2 _ hq _ (hf.get 0 rfl rfl)).mono ?_; rintro e w'' ⟨⟨u, rfl, hu⟩, hb⟩); refine ⟨hq.trans (hb.mono hq.size), hb, ?_, rfl⟩; (show pri.IsL _ _ (rel.slot _ _) _ _; simp only [rel.slot_lit, List.getD_cons_succ, List.getD_cons_zero]; exact hu))); (intro u wu _ hu; obtain ⟨pv, t_pv, rfl, -⟩ := hu; (simp only [rel.put_lit, List.set_cons_succ, List.set_cons_zero])))
      (apply rel.walk_rel (fun u w' => pri.IsL Q w' u (k) (L)) ⟨_, rfl⟩ (fun u w1 w2 h1 h2 => h2.on h1); (focus (intro wq hq hf; have h0 := hf.get 0 rfl rfl; go_wp2; refine ⟨hq, Below.refl _ _, ?_, rfl⟩; (show pri.IsL _ _ (rel.slot _ _) _ _; simp only [rel.slot_lit, List.getD_cons_succ, List.getD_cons_zero]; exact h0))); (intro u wu _ hu; obtain ⟨pz, t_pz, rfl, -⟩ := hu; (simp only [rel.put_lit, List.set_cons_succ, List.set_cons_zero])))
      (refine rel.walk_nil ?_; intro w9 K9 hF; have hu9 := hF _ (List.mem_cons_self ..); clear hF)
      go_wp2
      go_ret
      exact ⟨⟨_, rfl, hu9⟩, K9⟩
    · obtain ⟨⟨l1', l4', lh'⟩, ⟨r1', r4', rh'⟩, oi'⟩ := ob
      have S' := isSingle_deep hb r1'
      obtain ⟨gb, u', z', q', rfl, -, hkb, hul', hzr', hi'⟩ := hb
      have hg' := hkb.lt
      obtain ⟨M, hM⟩ : ∃ M, flat (r ++ ns ++ l') = M := ⟨_, rfl⟩
      obtain ⟨T, hT⟩ : ∃ T, i.nums ++ M ++ i'.nums = T := ⟨_, rfl⟩
      have hLT : flat l ++ T ++ flat r' = L := by rw [← hL, ← hT, ← hM]; simp [Lv.nums, flat_append]
      have hTb : T.length ≤ 4611686018427387904 := by have := congrArg List.length hLT; simp at this; omega
      have hMb : M.length ≤ 4611686018427387904 := by have := congrArg List.length hT; simp at this; omega
      have H1 := fun W (K : Below w.heap.size w W) (s : Nat) (hs : hp.Blk W s 67 [z, v, u']) => concat3_any s z v u' r ns l' W (fun b h => hQ b (Nat.le_trans K.size h)) hs (hzr.on K) (hr.on K) (hul'.on K) (by omega)
      have H2 : ∀ W (K : Below w.heap.size w W) (x : Value), Row Q W x (r ++ ns ++ l') → Calls Try.prog 42 #[x] W fun e w' => (∃ u, e = .returned u ∧ IsGr Q w' u (k + 1) M) ∧ Below W.heap.size W w' :=
        fun W K x hx => grouped_any x (r ++ ns ++ l') k W (fun b h => hQ b (Nat.le_trans K.size h)) hx ((rh.append hk).append lh') (by simp; omega) (by simp; omega) M hM hMb
      have H3 : ∀ W (K : Below w.heap.size w W) (x : Value), IsGr Q W x (k + 1) M → Calls Try.prog 28 #[.pointer q, x, .pointer q'] W fun e w' => (∃ u, e = .returned u ∧ IsL Q w' u (k + 1) T) ∧ Below W.heap.size W w' := by
        intro W K x ⟨gs, hx, h1, h2, h3, h4⟩
        exact ih i' (k + 1) q q' x gs W T (fun b h => hQ b (Nat.le_trans K.size h)) (hi.on K) oi (hi'.on K) oi' hx h1 h3 (by rw [h4, hT]) hTb
      have H4 : ∀ W (K : Below w.heap.size w W) (x : Option Addr), IsL Q W (.pointer x) (k + 1) T → Calls Try.prog 43 #[u, .pointer x, z'] W fun e w' => (∃ u, e = .returned u ∧ IsL Q w' u k L) ∧ Below W.heap.size W w' := by
        intro W K x ⟨_, t, e, h1, h2, h3⟩
        cases e
        exact deep_l k u z' l r' t x W L (fun b h => hQ b (Nat.le_trans K.size h)) (hul.on K) (hzr'.on K) h1 h2 ⟨l1, l4, lh⟩ ⟨r1', r4', rh'⟩ (by rw [h3, hLT]) hbd
      obtain ⟨au, nu, cu, rfl⟩ := hul.val
      obtain ⟨az, nz, cz, rfl⟩ := hzr.val
      obtain ⟨au', nu', cu', rfl⟩ := hul'.val
      obtain ⟨az', nz', cz', rfl⟩ := hzr'.val
      obtain ⟨av, nv, cv, rfl⟩ := hr.val
      have c5 := hkg.cell 2
      have c6 := hkg.cell 3
      have c7 := hkg.cell 4
      have d5 := hkb.cell 2
      have d6 := hkb.cell 3
      have d7 := hkb.cell 4
      simp only [List.getElem?_cons_zero, List.getElem?_cons_succ] at c5 c6 c7 d5 d6 d7
      generalize r ++ ns ++ l' = rnl at *
      clear hr hL hkg hul hzr hi hA ih hkb hul' hzr' hi' hM hT hLT hTb hMb lh l1 l4 r1 r4 rh l1' l4' lh' r1' r4' rh' oi oi' hk h4 hbd
      go_enter Try.func28, Try.ntmps28
      go_wp2_with (first
        | (go_at_call 41; (with_reducible refine S.mono ?_); clear S; rintro e w1 ⟨rfl, rfl⟩)
        | (go_at_call 41; (with_reducible refine S'.mono ?_); clear S'; rintro e w1 ⟨rfl, rfl⟩))
      apply rel.region (C := fun w' => Below w.heap.size w w') (X := fun w w' => Below w.heap.size w w') (by kernel_rfl) (by kernel_rfl) (by kernel_rfl) ((Below.refl _ _).drew)
      (apply rel.walk_val; (focus (intro wq hq hf; go_wp2; refine ⟨hq, Below.refl _ _, ?_, rfl⟩; (show rel.slot _ _ = _; simp only [rel.slot_lit, List.getD_cons_succ, List.getD_cons_zero]; (first | done | exact rfl)))); (simp only [rel.put_lit, List.set_cons_succ, List.set_cons_zero]))
      (apply rel.walk_val; (focus (intro wq hq hf; go_wp2; refine ⟨hq, Below.refl _ _, ?_, rfl⟩; (show rel.slot _ _ = _; simp only [rel.slot_lit, List.getD_cons_succ, List.getD_cons_zero]; (first | done | exact rfl)))); (simp only [rel.put_lit, List.set_cons_succ, List.set_cons_zero]))
      (apply rel.walk_val; (focus (intro wq hq hf; go_wp2; refine ⟨hq, Below.refl _ _, ?_, rfl⟩; (show rel.slot _ _ = _; simp only [rel.slot_lit, List.getD_cons_succ, List.getD_cons_zero]; (first | done | exact rfl)))); (simp only [rel.put_lit, List.set_cons_succ, List.set_cons_zero]))
      ((apply rel.walk_val; (focus (intro wq hq hf; (have d0 := (hq.cell (p := ⟨g, 3, none⟩) hg).trans c6); go_wp2; refine ⟨hq, Below.refl _ _, ?_, rfl⟩; (show rel.slot _ _ = _; simp only [rel.slot_lit, List.getD_cons_succ, List.getD_cons_zero]; (first | done | exact rfl)))); (simp only [rel.put_lit, List.set_cons_succ, List.set_cons_zero])))
      (apply rel.walk_val; (focus (intro wq hq hf; go_wp2; refine ⟨hq, Below.refl _ _, ?_, rfl⟩; (show rel.slot _ _ = _; simp only [rel.slot_lit, List.getD_cons_succ, List.getD_cons_zero]; (first | done | exact rfl)))); (simp only [rel.put_lit, List.set_cons_succ, List.set_cons_zero]))
      (apply rel.walk_val; (focus (intro wq hq hf; go_wp2; refine ⟨hq, Below.refl _ _, ?_, rfl⟩; (show rel.slot _ _ = _; simp only [rel.slot_lit, List.getD_cons_succ, List.getD_cons_zero]; (first | done | exact rfl)))); (simp only [rel.put_lit, List.set_cons_succ, List.set_cons_zero]))
      (apply rel.walk_val; (focus (intro wq hq hf; go_wp2; refine ⟨hq, Below.refl _ _, ?_, rfl⟩; (show rel.slot _ _ = _; simp only [rel.slot_lit, List.getD_cons_succ, List.getD_cons_zero]; (first | done | exact rfl)))); (simp only [rel.put_lit, List.set_cons_succ, List.set_cons_zero]))
      (apply rel.walk_val; (focus (intro wq hq hf; go_wp2; refine ⟨hq, Below.refl _ _, ?_, rfl⟩; (show rel.slot _ _ = _; simp only [rel.slot_lit, List.getD_cons_succ, List.getD_cons_zero]; (first | done | exact rfl)))); (simp only [rel.put_lit, List.set_cons_succ, List.set_cons_zero]))
      ((apply rel.walk_val; (focus (intro wq hq hf; (have d0 := (hq.cell (p := ⟨gb, 2, none⟩) hg').trans d5); go_wp2; refine ⟨hq, Below.refl _ _, ?_, rfl⟩; (show rel.slot _ _ = _; simp only [rel.slot_lit, List.getD_cons_succ, List.getD_cons_zero]; (first | done | exact rfl)))); (simp only [rel.put_lit, List.set_cons_succ, List.set_cons_zero])))
      (apply rel.walk_rel (fun u w' => ∃ γ, u = .slice (some ⟨γ, 0, none⟩) 3 3 ∧ hp.Blk w' γ 67 ([.slice az nz cz, .slice av nv cv, .slice au' nu' cu'])) ⟨_, rfl⟩ (fun u w1 w2 h1 h2 => by obtain ⟨γ, he, hk⟩ := h2; exact ⟨γ, he, hk.on h1⟩); (focus (intro wq hq hf; go_wp2; refine ⟨hq.alloc hq.size _, (Below.refl _ _).alloc (Nat.le_refl _) _, ?_, rfl⟩; (show ∃ γ, rel.slot _ _ = _ ∧ _; simp only [rel.slot_lit, List.getD_cons_succ, List.getD_cons_zero]; exact ⟨_, rfl, hp.Blk.new _ _ _⟩))); (intro u wu _ hu; obtain ⟨ps, rfl, -⟩ := hu; (simp only [rel.put_lit, List.set_cons_succ, List.set_cons_zero])))
      (apply rel.walk_rel (fun u w' => pri.Row Q w' u (rnl)) ⟨_, rfl⟩ (fun u w1 w2 h1 h2 => h2.on h1); (focus (intro wq hq hf; go_wp2_with (go_at_call 33; with_reducible refine (H1 _ hq ps (blk_ex (hf.get 0 rfl rfl))).mono ?_; rintro e w'' ⟨⟨u, rfl, hu⟩, hb⟩); refine ⟨hq.trans (hb.mono hq.size), hb, ?_, rfl⟩; (show pri.Row _ _ (rel.slot _ _) _; simp only [rel.slot_lit, List.getD_cons_succ, List.getD_cons_zero]; exact hu))); (intro u wu _ hu; obtain ⟨a_x, n_x, c_x, rfl⟩ := pri.Row.val hu; (simp only [rel.put_lit, List.set_cons_succ, List.set_cons_zero])))
      (apply rel.walk_rel (fun u w' => pri.IsGr Q w' u (k + 1) (M)) ⟨_, rfl⟩ (fun u w1 w2 h1 h2 => h2.on h1); (focus (intro wq hq hf; go_wp2_with (go_at_call 42; with_reducible refine (H2 _ hq _ (hf.get 0 rfl rfl)).mono ?_; rintro e w'' ⟨⟨u, rfl, hu⟩, hb⟩); refine ⟨hq.trans (hb.mono hq.size), hb, ?_, rfl⟩; (show pri.IsGr _ _ (rel.slot _ _) _ _; simp only [rel.slot_lit, List.getD_cons_succ, List.getD_cons_zero]; exact hu))); (intro u wu _ hu; obtain ⟨a_y, n_y, c_y, rfl⟩ := pri.IsGr.val hu; (simp only [rel.put_lit, List.set_cons_succ, List.set_cons_zero])))
      (apply rel.walk_rel (fun u w' => pri.IsGr Q w' u (k + 1) (M)) ⟨_, rfl⟩ (fun u w1 w2 h1 h2 => h2.on h1); (focus (intro wq hq hf; have h0 := hf.get 0 rfl rfl; go_wp2; refine ⟨hq, Below.refl _ _, ?_, rfl⟩; (show pri.IsGr _ _ (rel.slot _ _) _ _; simp only [rel.slot_lit, List.getD_cons_succ, List.getD_cons_zero]; exact h0))); (intro u wu _ hu; obtain ⟨a_z, n_z, c_z, rfl⟩ := pri.IsGr.val hu; (simp only [rel.put_lit, List.set_cons_succ, List.set_cons_zero])))
      (refine rel.walk_nil ?_; intro w9 K9 hF; have hu9 := hF _ (List.mem_cons_self ..); clear hF)
      have hs9 := K9.size
      have hg9 : g < w9.heap.size := by omega
      have hg9' : gb < w9.heap.size := by omega
      have a5 := (K9.cell (p := ⟨g, 2, none⟩) hg).trans c5
      have a7 := (K9.cell (p := ⟨g, 4, none⟩) hg).trans c7
      have b6 := (K9.cell (p := ⟨gb, 3, none⟩) hg').trans d6
      have b7 := (K9.cell (p := ⟨gb, 4, none⟩) hg').trans d7
      have J := fun V (h : Below w9.heap.size w9 V) => H3 V (K9.trans (h.mono hs9)) _ (hu9.on h)
      have D := fun V (h : Below w9.heap.size w9 V) => H4 V (K9.trans (h.mono hs9))
      clear H1 H2 H3 H4 hu9 c5 c6 c7 d5 d6 d7
      go_wp2_with fail
      apply rel.region (C := fun w' => Below w9.heap.size w9 w') (X := fun w w' => Below w.heap.size w w') (by kernel_rfl) (by kernel_rfl) (by kernel_rfl) ((Below.refl _ _).drew)
      (apply rel.walk_val; (focus (intro wq hq hf; go_wp2; refine ⟨hq, Below.refl _ _, ?_, rfl⟩; (show rel.slot _ _ = _; simp only [rel.slot_lit, List.getD_cons_succ, List.getD_cons_zero]; (first | done | exact rfl)))); (simp only [rel.put_lit, List.set_cons_succ, List.set_cons_zero]))
      (apply rel.walk_val; (focus (intro wq hq hf; go_wp2; refine ⟨hq, Below.refl _ _, ?_, rfl⟩; (show rel.slot _ _ = _; simp only [rel.slot_lit, List.getD_cons_succ, List.getD_cons_zero]; (first | done | exact rfl)))); (simp only [rel.put_lit, List.set_cons_succ, List.set_cons_zero]))
      (apply rel.walk_val; (focus (intro wq hq hf; go_wp2; refine ⟨hq, Below.refl _ _, ?_, rfl⟩; (show rel.slot _ _ = _; simp only [rel.slot_lit, List.getD_cons_succ, List.getD_cons_zero]; (first | done | exact rfl)))); (simp only [rel.put_lit, List.set_cons_succ, List.set_cons_zero]))
      ((apply rel.walk_val; (focus (intro wq hq hf; (have d0 := (hq.cell (p := ⟨g, 2, none⟩) hg9).trans a5); go_wp2; refine ⟨hq, Below.refl _ _, ?_, rfl⟩; (show rel.slot _ _ = _; simp only [rel.slot_lit, List.getD_cons_succ, List.getD_cons_zero]; (first | done | exact rfl)))); (simp only [rel.put_lit, List.set_cons_succ, List.set_cons_zero])))
      (apply rel.walk_val; (focus (intro wq hq hf; go_wp2; refine ⟨hq, Below.refl _ _, ?_, rfl⟩; (show rel.slot _ _ = _; simp only [rel.slot_lit, List.getD_cons_succ, List.getD_cons_zero]; (first | done | exact rfl)))); (simp only [rel.put_lit, List.set_cons_succ, List.set_cons_zero]))
      (apply rel.walk_val; (focus (intro wq hq hf; go_wp2; refine ⟨hq, Below.refl _ _, ?_, rfl⟩; (show rel.slot _ _ = _; simp only [rel.slot_lit, List.getD_cons_succ, List.getD_cons_zero]; (first | done | exact rfl)))); (simp only [rel.put_lit, List.set_cons_succ, List.set_cons_zero]))
      (apply rel.walk_val; (focus (intro wq hq hf; go_wp2; refine ⟨hq, Below.refl _ _, ?_, rfl⟩; (show rel.slot _ _ = _; simp only [rel.slot_lit, List.getD_cons_succ, List.getD_cons_zero]; (first | done | exact rfl)))); (simp only [rel.put_lit, List.set_cons_succ, List.set_cons_zero]))
      ((apply rel.walk_val; (focus (intro wq hq hf; (have d0 := (hq.cell (p := ⟨g, 4, none⟩) hg9).trans a7); go_wp2; refine ⟨hq, Below.refl _ _, ?_, rfl⟩; (show rel.slot _ _ = _; simp only [rel.slot_lit, List.getD_cons_succ, List.getD_cons_zero]; (first | done | exact rfl)))); (simp only [rel.put_lit, List.set_cons_succ, List.set_cons_zero])))
      (apply rel.walk_val; (focus (intro wq hq hf; go_wp2; refine ⟨hq, Below.refl _ _, ?_, rfl⟩; (show rel.slot _ _ = _; simp only [rel.slot_lit, List.getD_cons_succ, List.getD_cons_zero]; (first | done | exact rfl)))); (simp only [rel.put_lit, List.set_cons_succ, List.set_cons_zero]))
      (apply rel.walk_val; (focus (intro wq hq hf; go_wp2; refine ⟨hq, Below.refl _ _, ?_, rfl⟩; (show rel.slot _ _ = _; simp only [rel.slot_lit, List.getD_cons_succ, List.getD_cons_zero]; (first | done | exact rfl)))); (simp only [rel.put_lit, List.set_cons_succ, List.set_cons_zero]))
      (apply rel.walk_val; (focus (intro wq hq hf; go_wp2; refine ⟨hq, Below.refl _ _, ?_, rfl⟩; (show rel.slot _ _ = _; simp only [rel.slot_lit, List.getD_cons_succ, List.getD_cons_zero]; (first | done | exact rfl)))); (simp only [rel.put_lit, List.set_cons_succ, List.set_cons_zero]))
      (apply rel.walk_val; (focus (intro wq hq hf; go_wp2; refine ⟨hq, Below.refl _ _, ?_, rfl⟩; (show rel.slot _ _ = _; simp only [rel.slot_lit, List.getD_cons_succ, List.getD_cons_zero]; (first | done | exact rfl)))); (simp only [rel.put_lit, List.set_cons_succ, List.set_cons_zero]))
      ((apply rel.walk_val; (focus (intro wq hq hf; (have d0 := (hq.cell (p := ⟨gb, 4, none⟩) hg9').trans b7); go_wp2; refine ⟨hq, Below.refl _ _, ?_, rfl⟩; (show rel.slot _ _ = _; simp only [rel.slot_lit, List.getD_cons_succ, List.getD_cons_zero]; (first | done | exact rfl)))); (simp only [rel.put_lit, List.set_cons_succ, List.set_cons_zero])))
      (apply rel.walk_rel (fun u w' => pri.IsL Q w' u (k + 1) (T)) ⟨_, rfl⟩ (fun u w1 w2 h1 h2 => h2.on h1); (focus (intro wq hq hf; go_wp2_with (go_at_call 28; with_reducible refine (J _ hq).mono ?_; rintro e w'' ⟨⟨u, rfl, hu⟩, hb⟩); refine ⟨hq.trans (hb.mono hq.size), hb, ?_, rfl⟩; (show pri.IsL _ _ (rel.slot _ _) _ _; simp only [rel.slot_lit, List.getD_cons_succ, List.getD_cons_zero]; exact hu))); (intro u wu _ hu; obtain ⟨pj, t_pj, rfl, -⟩ := hu; (simp only [rel.put_lit, List.set_cons_succ, List.set_cons_zero])))
      (apply rel.walk_val; (focus (intro wq hq hf; go_wp2; refine ⟨hq, Below.refl _ _, ?_, rfl⟩; (show rel.slot _ _ = _; simp only [rel.slot_lit, List.getD_cons_succ, List.getD_cons_zero]; (first | done | exact rfl)))); (simp only [rel.put_lit, List.set_cons_succ, List.set_cons_zero]))
      (apply rel.walk_val; (focus (intro wq hq hf; go_wp2; refine ⟨hq, Below.refl _ _, ?_, rfl⟩; (show rel.slot _ _ = _; simp only [rel.slot_lit, List.getD_cons_succ, List.getD_cons_zero]; (first | done | exact rfl)))); (simp only [rel.put_lit, List.set_cons_succ, List.set_cons_zero]))
      (apply rel.walk_val; (focus (intro wq hq hf; go_wp2; refine ⟨hq, Below.refl _ _, ?_, rfl⟩; (show rel.slot _ _ = _; simp only [rel.slot_lit, List.getD_cons_succ, List.getD_cons_zero]; (first | done | exact rfl)))); (simp only [rel.put_lit, List.set_cons_succ, List.set_cons_zero]))
      ((apply rel.walk_val; (focus (intro wq hq hf; (have d0 := (hq.cell (p := ⟨gb, 3, none⟩) hg9').trans b6); go_wp2; refine ⟨hq, Below.refl _ _, ?_, rfl⟩; (show rel.slot _ _ = _; simp only [rel.slot_lit, List.getD_cons_succ, List.getD_cons_zero]; (first | done | exact rfl)))); (simp only [rel.put_lit, List.set_cons_succ, List.set_cons_zero])))
      (apply rel.walk_rel (fun u w' => pri.IsL Q w' u (k) (L)) ⟨_, rfl⟩ (fun u w1 w2 h1 h2 => h2.on h1); (focus (intro wq hq hf; go_wp2_with (go_at_call 43; with_reducible refine (D _ hq _ (hf.get 0 rfl rfl)).mono ?_; rintro e w'' ⟨⟨u, rfl, hu⟩, hb⟩); refine ⟨hq.trans (hb.mono hq.size), hb, ?_, rfl⟩; (show pri.IsL _ _ (rel.slot _ _) _ _; simp only [rel.slot_lit, List.getD_cons_succ, List.getD_cons_zero]; exact hu))); (intro u wu _ hu; obtain ⟨pd, t_pd, rfl, -⟩ := hu; (simp only [rel.put_lit, List.set_cons_succ, List.set_cons_zero])))
      (apply rel.walk_rel (fun u w' => pri.IsL Q w' u (k) (L)) ⟨_, rfl⟩ (fun u w1 w2 h1 h2 => h2.on h1); (focus (intro wq hq hf; have h0 := hf.get 0 rfl rfl; go_wp2; refine ⟨hq, Below.refl _ _, ?_, rfl⟩; (show pri.IsL _ _ (rel.slot _ _) _ _; simp only [rel.slot_lit, List.getD_cons_succ, List.getD_cons_zero]; exact h0))); (intro u wu _ hu; obtain ⟨pz, t_pz, rfl, -⟩ := hu; (simp only [rel.put_lit, List.set_cons_succ, List.set_cons_zero])))
      (refine rel.walk_nil ?_; intro w10 K10 hF; have hu10 := hF _ (List.mem_cons_self ..); clear hF)
      go_wp2
      go_ret
      exact ⟨⟨_, rfl, hu10⟩, K9.trans (K10.mono hs9)⟩
end Go.Proofs.Ytfbeiimmcemniaa.pri
