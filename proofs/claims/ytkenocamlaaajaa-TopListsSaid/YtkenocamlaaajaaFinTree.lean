/- Package finger: PushLeft, PushRight, PopLeft, PopRight, Join, Of. -/
import Derived.Test.YtkenocamlaaajaaFinInts
import Derived.Test.YtkenocamlaaajaaFinJoin
namespace Go.Proofs.Ytkenocamlaaajaa.fin
open Go Go.RowKit Go.Proofs.Ytkenocamlaaajaa.mono

theorem IsT.keep {w w' : World} {u : Value} {l : List Int} (h : IsT w u l) (hk : Keep w w') : IsT w' u l := let ⟨p, e, h1⟩ := h; ⟨p, e, h1.keep hk⟩
theorem any_ok (w : World) : ∀ b, w.heap.size ≤ b → Any b := fun _ _ => trivial
theorem IsT.mk {w : World} {p : Option Addr} {l : List Int} (h : IsL Any w (.pointer p) 0 l) : IsT w (.agg #[.pointer p]) l := ⟨p, rfl, h⟩
theorem keep_mtree {W : World} {g : Nat} {cs : List Value} (hg : hp.Blk W g 26 cs) (o : Nat) (v : Value) : Keep W (W.setCell ⟨g, o, none⟩ v) := Keep.of_set hg (by decide) (by decide) (by decide) v
theorem keep_tree {W : World} {g : Nat} {cs : List Value} (hg : hp.Blk W g 28 cs) (o : Nat) (v : Value) : Keep W (W.setCell ⟨g, o, none⟩ v) := Keep.of_set hg (by decide) (by decide) (by decide) v
theorem field_len (n : Nat) (l : List Int) (W : World) : Sem.run Try.prog (Instr.field 42 (mvOf n l) 0) W = .ok (.int .i64 n) W := field_n _ _ _ _ _ W
theorem keep_drew (W : World) : Keep W W.drew := fun _ _ _ _ h => h

set_option maxRecDepth 100000 in
set_option maxHeartbeats 4000000 in
theorem mPushRight_any {p : Option Addr} {l : List Int} {w : World} (x : Int) (L : List Int) (h : IsL Any w (.pointer p) 0 l) (hx : (Lit.int .i64 x).wf = true) (hL : l ++ [x] = L) (hbd : L.length ≤ 4611686018427387904) :
    Calls Try.prog 68 #[.agg #[.pointer p], .int .i64 x] w fun e w' => (∃ u, e = .returned u ∧ IsT w' u L) ∧ Below w.heap.size w w' := by
  obtain ⟨W, hW⟩ : ∃ W, (w.alloc (.cells #[.pointer p] 26)).alloc (.cells #[.pointer none] 26) = W := ⟨_, rfl⟩
  have hA : hp.Blk W w.heap.size 26 [.pointer p] := by rw [← hW]; exact (hp.Blk.new w [.pointer p] _).alloc _
  have hR : hp.Blk W (w.heap.size + 1) 26 [.pointer none] := by rw [← hW]; exact hp.Blk.newAt (by simp)
  have hb : Below w.heap.size w W := by rw [← hW]; ((repeat' (first | with_reducible exact Below.refl _ _ | with_reducible apply Below.setCell | with_reducible apply below_drewN | with_reducible apply Below.drew | with_reducible apply Below.alloc | with_reducible refine Below.trans ?_ (Below.mono (by assumption) ?_))) <;> (first | (simp; done) | (simp; omega) | omega))
  have H1 := fun V => leaf_any (Q := Any) x V (any_ok V) hx
  have H2 := fun V (K : Below W.heap.size W V) (px : Option Addr) (hn : IsN Any V (.pointer px) 0 [x]) => push_r L (any_ok V) ((h.on hb).on K) hn hL hbd
  clear h hL hbd hx
  go_enter Try.func68, Try.ntmps68
  go_wp2_with fail
  clear hW
  apply rel.region_tail (C := fun w' => Below W.heap.size W w') (X := fun w w' => Below w.heap.size w w') 5 (by kernel_rfl) (by kernel_rfl) (by kernel_rfl) (by kernel_rfl) ((Below.refl _ _).drew)
  (apply rel.walk_val; (focus (intro wq hq hf; go_wp2; refine ⟨hq, Below.refl _ _, ?_, rfl⟩; (show rel.slot _ _ = _; simp only [rel.slot_lit, List.getD_cons_succ, List.getD_cons_zero]; (first | done | exact rfl)))); (simp only [rel.put_lit, List.set_cons_succ, List.set_cons_zero]))
  ((apply rel.walk_val; (focus (intro wq hq hf; (have d0 := (((hA).below hq (hA).lt)).cell 0; simp only [List.getElem?_cons_zero] at d0); go_wp2; refine ⟨hq, Below.refl _ _, ?_, rfl⟩; (show rel.slot _ _ = _; simp only [rel.slot_lit, List.getD_cons_succ, List.getD_cons_zero]; (first | done | exact rfl)))); (simp only [rel.put_lit, List.set_cons_succ, List.set_cons_zero])))
  (apply rel.walk_val; (focus (intro wq hq hf; go_wp2; refine ⟨hq, Below.refl _ _, ?_, rfl⟩; (show rel.slot _ _ = _; simp only [rel.slot_lit, List.getD_cons_succ, List.getD_cons_zero]; (first | done | exact rfl)))); (simp only [rel.put_lit, List.set_cons_succ, List.set_cons_zero]))
  (apply rel.walk_rel (fun u w' => fin.IsN Any w' u (0) ([x])) ⟨_, rfl⟩ (fun u w1 w2 h1 h2 => h2.on h1); (focus (intro wq hq hf; go_wp2_with (go_at_call 77; with_reducible refine (H1 _).mono ?_; rintro e w'' ⟨⟨u, rfl, hu⟩, hb⟩); refine ⟨hq.trans (hb.mono hq.size), hb, ?_, rfl⟩; (show fin.IsN _ _ (rel.slot _ _) _ _; simp only [rel.slot_lit, List.getD_cons_succ, List.getD_cons_zero]; exact hu))); (intro u wu _ hu; obtain ⟨pn, t_pn, rfl, -⟩ := hu; (simp only [rel.put_lit, List.set_cons_succ, List.set_cons_zero])))
  (apply rel.walk_rel (fun u w' => fin.IsL Any w' u (0) (L)) ⟨_, rfl⟩ (fun u w1 w2 h1 h2 => h2.on h1); (focus (intro wq hq hf; go_wp2_with (go_at_call 76; with_reducible refine (H2 _ hq _ (hf.get 0 rfl rfl)).mono ?_; rintro e w'' ⟨⟨u, rfl, hu⟩, hb⟩); refine ⟨hq.trans (hb.mono hq.size), hb, ?_, rfl⟩; (show fin.IsL _ _ (rel.slot _ _) _ _; simp only [rel.slot_lit, List.getD_cons_succ, List.getD_cons_zero]; exact hu))); (intro u wu _ hu; obtain ⟨pu, t_pu, rfl, -⟩ := hu; (simp only [rel.put_lit, List.set_cons_succ, List.set_cons_zero])))
  (refine rel.walk_nil ?_; intro w9 K9 hF; have hu9 := hF _ (List.mem_cons_self ..); clear hF)
  have hR9 := hR.on K9
  have d0 := hR9.cell 0
  have df := hR9.free
  have f0 := (hR9.set 0 (.pointer pu)).cell 0
  simp only [List.getElem?_cons_zero, List.set_cons_zero] at d0 f0
  simp only [List.drop_succ_cons, List.drop_zero]
  go_wp2_with fail
  exact bodyPost_ret (v := .agg #[.pointer pu]) (by simp [results, Try.results68, go_sem, f0]) rfl ⟨⟨_, rfl, IsT.mk (hu9.keep (keep_mtree hR9 _ _))⟩, (hb.trans (K9.mono hb.size)).setCell (p := ⟨w.heap.size + 1, 0, none⟩) (by simp) _⟩
set_option maxRecDepth 100000 in
theorem pushRight {u : Value} {l : List Int} {w : World} (x : Int) (L : List Int) (h : IsT w u l) (hx : (Lit.int .i64 x).wf = true) (hL : l ++ [x] = L) (hbd : L.length ≤ 4611686018427387904) :
    Calls Try.prog 57 #[u, .int .i64 x] w fun e w' => (∃ u, e = .returned u ∧ IsT w' u L) ∧ Below w.heap.size w w' := by
  obtain ⟨p, rfl, h⟩ := h
  obtain ⟨W, hW⟩ : ∃ W, (w.alloc (.cells #[.pointer p] 28)).alloc (.cells #[.pointer none] 28) = W := ⟨_, rfl⟩
  have hR : hp.Blk W (w.heap.size + 1) 28 [.pointer none] := by rw [← hW]; exact hp.Blk.newAt (by simp)
  have hA : hp.Blk W w.heap.size 28 [.pointer p] := by rw [← hW]; exact (hp.Blk.new w [.pointer p] _).alloc _
  have hb : Below w.heap.size w W := by rw [← hW]; ((repeat' (first | with_reducible exact Below.refl _ _ | with_reducible apply Below.setCell | with_reducible apply below_drewN | with_reducible apply Below.drew | with_reducible apply Below.alloc | with_reducible refine Below.trans ?_ (Below.mono (by assumption) ?_))) <;> (first | (simp; done) | (simp; omega) | omega))
  have a0 := hA.cell 0
  have hlt := hA.lt
  simp only [List.getElem?_cons_zero] at a0
  have H := mPushRight_any x L (h.on hb) hx hL hbd
  clear h hL hbd hx hA
  go_enter Try.func57, Try.ntmps57
  go_wp2_with (go_at_call 68; (with_reducible refine H.mono ?_); clear H; rintro e w9 ⟨⟨u, rfl, hu⟩, K9⟩; (obtain ⟨pu, rfl⟩ := hu.val); have hR9 := hR.on K9; have d0 := hR9.cell 0; have df := hR9.free; have f0 := (hR9.set 0 (.pointer pu)).cell 0; simp only [List.getElem?_cons_zero, List.set_cons_zero] at d0 f0)
  exact bodyPost_ret (v := .agg #[.pointer pu]) (by simp [results, Try.results57, go_sem, f0]) rfl ⟨⟨_, rfl, hu.keep (keep_tree hR9 _ _)⟩, (hb.trans (K9.mono hb.size)).setCell (p := ⟨w.heap.size + 1, 0, none⟩) (by simp) _⟩

set_option maxRecDepth 100000 in
theorem mPopLeft_nil (w : World) : Calls Try.prog 69 #[.agg #[.pointer none]] w fun e w' => e = .returned (.tuple #[.int .i64 0, .agg #[.pointer none], .bool false]) ∧ Below w.heap.size w w' := by
  have hR : hp.Blk ((w.alloc (.cells #[.pointer none] 26)).alloc (.cells #[.pointer none] 26)) (w.heap.size + 1) 26 [.pointer none] := hp.Blk.newAt (by simp)
  have d0 := hR.cell 0
  have df := hR.free
  have f0 := (hR.set 0 (.pointer none)).cell 0
  simp only [List.getElem?_cons_zero, List.set_cons_zero] at d0 f0
  go_enter Try.func69, Try.ntmps69
  go_wp2_with fail
  refine bodyPost_ret (v := .tuple #[.int .i64 0, .agg #[.pointer none], .bool false]) (by simp [results, Try.results69, go_sem, f0]) rfl ⟨rfl, ?_⟩
  ((repeat' (first | with_reducible exact Below.refl _ _ | with_reducible apply Below.setCell | with_reducible apply below_drewN | with_reducible apply Below.drew | with_reducible apply Below.alloc | with_reducible refine Below.trans ?_ (Below.mono (by assumption) ?_))) <;> (first | (simp; done) | (simp; omega) | omega))
set_option maxRecDepth 100000 in
theorem popLeft_nil {u : Value} (w : World) (h : IsT w u []) : Calls Try.prog 58 #[u] w fun e w' => e = .returned (.tuple #[.int .i64 0, .agg #[.pointer none], .bool false]) ∧ Below w.heap.size w w' := by
  obtain ⟨p, rfl, _, t, e, h1, h2, h3⟩ := h
  cases e
  obtain rfl : t = .nil := by
    cases t with
    | nil => rfl
    | one x => have := h2.pos; rw [show x.nums = [] from h3] at this; simp at this
    | deep a i b =>
      obtain ⟨⟨a1, _, ah⟩, _⟩ := h2
      have := ah.size
      have h4 : flat a ++ i.nums ++ flat b = [] := h3
      have h5 := congrArg List.length h4
      rw [List.length_append, List.length_append, List.length_nil] at h5
      simp at this
      omega
  obtain rfl : p = none := h1
  obtain ⟨W, hW⟩ : ∃ W, (w.alloc (.cells #[.pointer none] 28)).alloc (.cells #[.pointer none] 28) = W := ⟨_, rfl⟩
  have hA : hp.Blk W w.heap.size 28 [.pointer none] := by rw [← hW]; exact (hp.Blk.new w [.pointer none] _).alloc _
  have hR : hp.Blk W (w.heap.size + 1) 28 [.pointer none] := by rw [← hW]; exact hp.Blk.newAt (by simp)
  have hb : Below w.heap.size w W := by rw [← hW]; ((repeat' (first | with_reducible exact Below.refl _ _ | with_reducible apply Below.setCell | with_reducible apply below_drewN | with_reducible apply Below.drew | with_reducible apply Below.alloc | with_reducible refine Below.trans ?_ (Below.mono (by assumption) ?_))) <;> (first | (simp; done) | (simp; omega) | omega))
  have a0 := hA.cell 0
  have hlt := hA.lt
  simp only [List.getElem?_cons_zero] at a0
  have H := mPopLeft_nil W
  clear h2 h3 hA
  go_enter Try.func58, Try.ntmps58
  (go_wp2_with (go_at_call 69; (with_reducible refine (H).mono ?_); clear H; rintro e w9 ⟨rfl, K9⟩; have hR9 := (hR.on K9).alloc (.cells #[.pointer none] 26); have hB9 := hp.Blk.new w9 [.pointer none] 26); have hb9 := (K9.mono hb.size); ((obtain ⟨V, hV⟩ : ∃ V, w9.alloc (.cells #[.pointer none] 26) = V := ⟨_, rfl⟩); have hbV : Below w.heap.size w V := (by rw [← hV]; exact (hb.trans hb9).alloc (hb.trans hb9).size _); rw [hV] at hR9 hB9; rw [hV]; clear hV; have d0 := hR9.cell 0; have df := hR9.free; have e0 := hB9.cell 0; have l1 := hR9.lt; have l2 := hB9.lt; have f0 := (hR9.set 0 (.pointer none)).cell 0; simp only [List.getElem?_cons_zero, List.set_cons_zero] at d0 e0 f0; generalize w9.heap.size = b9 at *; go_big_region; go_wp2_with fail))
  exact bodyPost_ret (v := .tuple #[.int .i64 0, .agg #[.pointer none], .bool false]) (by simp [results, Try.results58, go_sem, f0]) rfl ⟨rfl, hbV.drew.setCell (p := ⟨w.heap.size + 1, 0, none⟩) (by simp) _⟩

set_option maxRecDepth 100000 in
set_option maxHeartbeats 4000000 in
theorem mPopLeft_any {p : Option Addr} {l L : List Int} {x : Int} {w : World} (h : IsL Any w (.pointer p) 0 L) (hL : x :: l = L) (hbd : L.length ≤ 4611686018427387904) :
    Calls Try.prog 69 #[.agg #[.pointer p]] w fun e w' => (∃ q, e = .returned (.tuple #[.int .i64 x, .agg #[.pointer q], .bool true]) ∧ IsL Any w' (.pointer q) 0 l) ∧ Below w.heap.size w w' := by
  obtain ⟨_, t, e, h1, h2, h3⟩ := h
  cases e
  have ht : t ≠ .nil := by
    rintro rfl
    rw [← hL] at h3
    simp [Lv.nums] at h3
  obtain ⟨g0, _, _, _, rfl, hg0, -⟩ := h1.five ht
  obtain ⟨W, hW⟩ : ∃ W, (w.alloc (.cells #[.pointer (some ⟨g0, 0, none⟩)] 26)).alloc (.cells #[.pointer none] 26) = W := ⟨_, rfl⟩
  have hA : hp.Blk W w.heap.size 26 [.pointer (some ⟨g0, 0, none⟩)] := by rw [← hW]; exact (hp.Blk.new w [.pointer (some ⟨g0, 0, none⟩)] _).alloc _
  have hR : hp.Blk W (w.heap.size + 1) 26 [.pointer none] := by rw [← hW]; exact hp.Blk.newAt (by simp)
  have hb : Below w.heap.size w W := by rw [← hW]; ((repeat' (first | with_reducible exact Below.refl _ _ | with_reducible apply Below.setCell | with_reducible apply below_drewN | with_reducible apply Below.drew | with_reducible apply Below.alloc | with_reducible refine Below.trans ?_ (Below.mono (by assumption) ?_))) <;> (first | (simp; done) | (simp; omega) | omega))
  have a0 := hA.cell 0
  have hlt := hA.lt
  simp only [List.getElem?_cons_zero] at a0
  have P : Calls Try.prog 78 #[.pointer (some ⟨g0, 0, none⟩)] W fun e w' => (∃ g q, e = .returned (.tuple #[.pointer (some ⟨g, 0, none⟩), .pointer q]) ∧ hp.Blk W g 122 (ncs [x] x (.slice none 0 0)) ∧ IsL Any w' (.pointer q) 0 l) ∧ Below W.heap.size W w' := by
    refine (popLeft_any t ht 0 _ W (any_ok W) (h1.on hb) h2 (by rw [h3]; exact hbd)).mono ?_
    rintro e w' ⟨⟨n, pn, v, X, he, hn, hh, hx, hX⟩, hbw⟩
    obtain ⟨y, rfl⟩ : ∃ y, n = .leaf y := by
      cases n with
      | leaf y => exact ⟨y, rfl⟩
      | two a b => exact hh.elim
      | tri a b c => exact hh.elim
    obtain ⟨g, rfl, -, hk⟩ := hn
    obtain ⟨q, t', rfl, hq⟩ := hx
    rw [h3, ← hL, show (Nd.leaf y).nums = [y] from rfl] at hX
    have e2 : y = x ∧ X = l := by
      simpa using hX
    obtain ⟨rfl, rfl⟩ := e2
    exact ⟨⟨g, q, he, hk, q, t', rfl, hq⟩, hbw⟩
  clear h1 h2 h3 ht hL hA hbd
  go_enter Try.func69, Try.ntmps69
  go_wp2_with (go_at_call 78; (with_reducible refine P.mono ?_); clear P; rintro e w9 ⟨⟨g, q, rfl, hk, hq⟩, K9⟩; have hk9 := hk.on K9; have c5 := hk9.cell 5; have hlk := hk9.lt; have hR9 := hR.on K9; have d0 := hR9.cell 0; have df := hR9.free; have f0 := (hR9.set 0 (.pointer q)).cell 0; simp only [List.getElem?_cons_zero, List.getElem?_cons_succ, List.set_cons_zero] at c5 d0 f0)
  exact bodyPost_ret (v := .tuple #[.int .i64 x, .agg #[.pointer q], .bool true]) (by simp [results, Try.results69, go_sem, f0]) rfl ⟨⟨_, rfl, hq.keep (keep_mtree hR9 _ _)⟩, (hb.trans (K9.mono hb.size)).setCell (p := ⟨w.heap.size + 1, 0, none⟩) (by simp) _⟩
set_option maxRecDepth 100000 in
theorem popLeft {u : Value} {l : List Int} (L : List Int) {x : Int} {w : World} (h : IsT w u L) (hL : x :: l = L) (hbd : L.length ≤ 4611686018427387904) :
    Calls Try.prog 58 #[u] w fun e w' => (∃ q, e = .returned (.tuple #[.int .i64 x, .agg #[.pointer q], .bool true]) ∧ IsT w' (.agg #[.pointer q]) l) ∧ Below w.heap.size w w' := by
  obtain ⟨p, rfl, h⟩ := h
  obtain ⟨W, hW⟩ : ∃ W, (w.alloc (.cells #[.pointer p] 28)).alloc (.cells #[.pointer none] 28) = W := ⟨_, rfl⟩
  have hA : hp.Blk W w.heap.size 28 [.pointer p] := by rw [← hW]; exact (hp.Blk.new w [.pointer p] _).alloc _
  have hR : hp.Blk W (w.heap.size + 1) 28 [.pointer none] := by rw [← hW]; exact hp.Blk.newAt (by simp)
  have hb : Below w.heap.size w W := by rw [← hW]; ((repeat' (first | with_reducible exact Below.refl _ _ | with_reducible apply Below.setCell | with_reducible apply below_drewN | with_reducible apply Below.drew | with_reducible apply Below.alloc | with_reducible refine Below.trans ?_ (Below.mono (by assumption) ?_))) <;> (first | (simp; done) | (simp; omega) | omega))
  have a0 := hA.cell 0
  have hlt := hA.lt
  simp only [List.getElem?_cons_zero] at a0
  have H := mPopLeft_any (h.on hb) hL hbd
  clear h hL hbd hA
  go_enter Try.func58, Try.ntmps58
  go_wp2_with (go_at_call 69; (with_reducible refine H.mono ?_); clear H; rintro e w9 ⟨⟨q, rfl, hq⟩, K9⟩; have hR9 := (hR.on K9).alloc (.cells #[.pointer q] 26); have hB9 := hp.Blk.new w9 [.pointer q] 26)
  have hb9 := (K9.mono hb.size)
  have hq9 := hq.on ((Below.refl _ _).alloc (Nat.le_refl _) (.cells #[.pointer q] 26))
  clear hq hW
  ((obtain ⟨V, hV⟩ : ∃ V, w9.alloc (.cells #[.pointer q] 26) = V := ⟨_, rfl⟩); have hbV : Below w.heap.size w V := (by rw [← hV]; exact (hb.trans hb9).alloc (hb.trans hb9).size _); rw [hV] at hR9 hB9 hq9; rw [hV]; clear hV; have d0 := hR9.cell 0; have df := hR9.free; have e0 := hB9.cell 0; have l1 := hR9.lt; have l2 := hB9.lt; have f0 := (hR9.set 0 (.pointer q)).cell 0; simp only [List.getElem?_cons_zero, List.set_cons_zero] at d0 e0 f0; generalize w9.heap.size = b9 at *; go_big_region; go_wp2_with fail)
  exact bodyPost_ret (v := .tuple #[.int .i64 x, .agg #[.pointer q], .bool true]) (by simp [results, Try.results58, go_sem, f0]) rfl ⟨⟨_, rfl, IsT.mk ((hq9.keep (keep_tree hR9 _ _)).keep (keep_drew _))⟩, (hbV.setCell (p := ⟨w.heap.size + 1, 0, none⟩) (by simp) _).drew⟩

theorem mJoin_any {p q : Option Addr} {l r : List Int} {w : World} (L : List Int) (h : IsL Any w (.pointer p) 0 l) (h' : IsL Any w (.pointer q) 0 r) (hL : l ++ r = L) (hbd : L.length ≤ 4611686018427387904) :
    Calls Try.prog 59 #[.agg #[.pointer p], .agg #[.pointer q]] w fun e w' => (∃ u, e = .returned u ∧ IsT w' u L) ∧ Below w.heap.size w w' := by
  obtain ⟨W, hW⟩ : ∃ W, ((w.alloc (.cells #[.pointer p] 26)).alloc (.cells #[.pointer q] 26)).alloc (.cells #[.pointer none] 26) = W := ⟨_, rfl⟩
  have hA : hp.Blk W w.heap.size 26 [.pointer p] := by rw [← hW]; exact ((hp.Blk.new w [.pointer p] _).alloc _).alloc _
  have hB : hp.Blk W (w.heap.size + 1) 26 [.pointer q] := by rw [← hW]; exact (hp.Blk.newAt (by simp)).alloc _
  have hR : hp.Blk W (w.heap.size + 1 + 1) 26 [.pointer none] := by rw [← hW]; exact hp.Blk.newAt (by simp)
  have hb : Below w.heap.size w W := by rw [← hW]; ((repeat' (first | with_reducible exact Below.refl _ _ | with_reducible apply Below.setCell | with_reducible apply below_drewN | with_reducible apply Below.drew | with_reducible apply Below.alloc | with_reducible refine Below.trans ?_ (Below.mono (by assumption) ?_))) <;> (first | (simp; done) | (simp; omega) | omega))
  have a0 := hA.cell 0
  have l0 := hA.lt
  have b0 := hB.cell 0
  have l1 := hB.lt
  simp only [List.getElem?_cons_zero] at a0 b0
  have J : Calls Try.prog 70 #[.pointer p, .slice none 0 0, .pointer q] W fun e w' => (∃ u, e = .returned u ∧ IsL Any w' u 0 L) ∧ Below W.heap.size W w' := by
    obtain ⟨_, t, e, h1, h2, h3⟩ := h.on hb
    cases e
    obtain ⟨_, t', e, h1', h2', h3'⟩ := h'.on hb
    cases e
    exact join_any t t' 0 p q _ [] W L (any_ok W) h1 h2 h1' h2' (Row.nil _ _) (Hts.nil _) (by simp) (by rw [h3, h3', flat_nil, List.append_nil, hL]) hbd
  clear h h' hL hbd hA hB
  go_enter Try.func59, Try.ntmps59
  go_wp2_with (go_at_call 70; (with_reducible refine J.mono ?_); clear J; rintro e w9 ⟨⟨u, rfl, hu⟩, K9⟩; have hu0 := hu; (obtain ⟨pu, _, rfl, -⟩ := hu0); have hR9 := hR.on K9; have d0 := hR9.cell 0; have df := hR9.free; have f0 := (hR9.set 0 (.pointer pu)).cell 0; simp only [List.getElem?_cons_zero, List.set_cons_zero] at d0 f0)
  exact bodyPost_ret (v := .agg #[.pointer pu]) (by simp [results, Try.results59, go_sem, f0]) rfl ⟨⟨_, rfl, IsT.mk (hu.keep (keep_mtree hR9 _ _))⟩, (hb.trans (K9.mono hb.size)).setCell (p := ⟨w.heap.size + 1 + 1, 0, none⟩) (by simp; omega) _⟩
theorem join_tree {u v : Value} {l r : List Int} {w : World} (L : List Int) (h : IsT w u l) (h' : IsT w v r) (hL : l ++ r = L) (hbd : L.length ≤ 4611686018427387904) :
    Calls Try.prog 40 #[u, v] w fun e w' => (∃ u, e = .returned u ∧ IsT w' u L) ∧ Below w.heap.size w w' := by
  obtain ⟨p, rfl, h⟩ := h
  obtain ⟨q, rfl, h'⟩ := h'
  obtain ⟨W, hW⟩ : ∃ W, ((w.alloc (.cells #[.pointer p] 28)).alloc (.cells #[.pointer q] 28)).alloc (.cells #[.pointer none] 28) = W := ⟨_, rfl⟩
  have hA : hp.Blk W w.heap.size 28 [.pointer p] := by rw [← hW]; exact ((hp.Blk.new w [.pointer p] _).alloc _).alloc _
  have hB : hp.Blk W (w.heap.size + 1) 28 [.pointer q] := by rw [← hW]; exact (hp.Blk.newAt (by simp)).alloc _
  have hR : hp.Blk W (w.heap.size + 1 + 1) 28 [.pointer none] := by rw [← hW]; exact hp.Blk.newAt (by simp)
  have hb : Below w.heap.size w W := by rw [← hW]; ((repeat' (first | with_reducible exact Below.refl _ _ | with_reducible apply Below.setCell | with_reducible apply below_drewN | with_reducible apply Below.drew | with_reducible apply Below.alloc | with_reducible refine Below.trans ?_ (Below.mono (by assumption) ?_))) <;> (first | (simp; done) | (simp; omega) | omega))
  have a0 := hA.cell 0
  have l0 := hA.lt
  have b0 := hB.cell 0
  have l1 := hB.lt
  simp only [List.getElem?_cons_zero] at a0 b0
  have J := mJoin_any L (h.on hb) (h'.on hb) hL hbd
  clear h h' hL hbd hA hB
  go_enter Try.func40, Try.ntmps40
  go_wp2_with (go_at_call 59; (with_reducible refine J.mono ?_); clear J; rintro e w9 ⟨⟨u, rfl, hu⟩, K9⟩; (obtain ⟨pu, rfl⟩ := hu.val); have hR9 := hR.on K9; have d0 := hR9.cell 0; have df := hR9.free; have f0 := (hR9.set 0 (.pointer pu)).cell 0; simp only [List.getElem?_cons_zero, List.set_cons_zero] at d0 f0)
  exact bodyPost_ret (v := .agg #[.pointer pu]) (by simp [results, Try.results40, go_sem, f0]) rfl ⟨⟨_, rfl, hu.keep (keep_tree hR9 _ _)⟩, (hb.trans (K9.mono hb.size)).setCell (p := ⟨w.heap.size + 1 + 1, 0, none⟩) (by simp; omega) _⟩

set_option maxRecDepth 100000 in
set_option maxHeartbeats 4000000 in
theorem of_any (v : Value) (l : List Int) (w : World) (hv : hp.IsInts w w.heap.size v l) (hbd : l.length ≤ 4611686018427387904) :
    Calls Try.prog 37 #[v] w fun e w' => (∃ u, e = .returned u ∧ IsT w' u l) ∧ Below w.heap.size w w' := by
  obtain ⟨a, cap, rfl, hnc, hm, hwf, hc⟩ := hv
  have hR := hp.Blk.new w [.pointer none] 28
  obtain ⟨n, hn⟩ : ∃ n, l.length = n := ⟨_, rfl⟩
  rw [hn] at hc hbd hnc hm ⊢
  go_enter Try.func37, Try.ntmps37
  go_wp2_with fail
  go_loopw [5, 9] (fun _ i wr => ∃ (j : Nat) (q : Option Addr), i = .int .i64 j ∧ j ≤ n ∧ Below w.heap.size w wr ∧ hp.Blk wr w.heap.size 28 [.pointer none] ∧ hp.Blk wr (w.heap.size + 1) 28 [.pointer q] ∧ IsT wr (.agg #[.pointer q]) (l.take j)) (fun _ i _ => n - (intOf i).toNat)
  case atStart => exact ⟨0, none, rfl, by omega, by ((repeat' (first | with_reducible exact Below.refl _ _ | with_reducible apply Below.setCell | with_reducible apply below_drewN | with_reducible apply Below.drew | with_reducible apply Below.alloc | with_reducible refine Below.trans ?_ (Below.mono (by assumption) ?_))) <;> (first | (simp; done) | (simp; omega) | omega)), hR.alloc _, hp.Blk.newAt (by simp), IsT.nil _⟩
  case round =>
    clear hR
    obtain ⟨j, q, rfl, hj, hb, hR, hB, hT⟩ := hrel
    have d0 := hB.cell 0
    have df := hB.free
    have lB := hB.lt
    simp only [List.getElem?_cons_zero] at d0
    by_cases hlt : j < n
    · obtain ⟨b, off, rfl, hb0, hcell⟩ := hc (by omega)
      have kp := (hb.cell (p := ⟨b, off + j, none⟩) hb0).trans (hcell j hlt)
      have hbw : b < wr.heap.size := by have := hb.size; omega
      have s1 := mono.take_snoc l j (by omega)
      obtain ⟨x, hx⟩ : ∃ x, x = l.getD j 0 := ⟨_, rfl⟩
      rw [← hx] at kp s1
      have hxw : (Lit.int .i64 x).wf = true := hwf x (by rw [hx]; simp [show j < l.length by omega])
      obtain ⟨T, hTe⟩ : ∃ T, l.take (j + 1) = T := ⟨_, rfl⟩
      rw [hTe] at s1
      have H := pushRight x T hT hxw s1.symm (by rw [← hTe, List.length_take]; omega)
      replace hTe := Lib.hid hTe
      clear s1 hx hcell hc hT hwf hxw
      go_wp2_with (go_at_call 57; (with_reducible refine H.mono ?_); clear H; rintro e w9 ⟨⟨u, rfl, hu⟩, K9⟩; (obtain ⟨pu, rfl⟩ := hu.val); have hB9 := hB.on K9; have d9 := hB9.cell 0; have df9 := hB9.free; simp only [List.getElem?_cons_zero] at d9)
      go_roundw
      case rel => exact ⟨j + 1, pu, by go_num, by omega, (hb.trans (K9.mono hb.size)).setCell (p := ⟨w.heap.size + 1, 0, none⟩) (by simp) _, (hR.on K9).other (by simp) _, hB9.set 0 _, by rw [hTe.out]; exact hu.keep (keep_tree hB9 _ _)⟩
      case measure => simp [intOf]; omega
    · obtain rfl : j = n := by omega
      rw [← hn, List.take_length] at hT
      have e0 := hR.cell 0
      have ef := hR.free
      have f0 := (hR.set 0 (.pointer q)).cell 0
      simp only [List.getElem?_cons_zero, List.set_cons_zero] at e0 f0
      go_wp2_with fail
      exact bodyPost_ret (v := .agg #[.pointer q]) (by simp [results, Try.results37, go_sem, f0]) rfl ⟨⟨_, rfl, hT.keep (keep_tree hR _ _)⟩, hb.setCell (p := ⟨w.heap.size, 0, none⟩) (Nat.le_refl _) _⟩
end Go.Proofs.Ytkenocamlaaajaa.fin
