/- wattleworkref1: Inner, Outer, Shaped. -/
import Derived.Test.YtlaflhnnddfkkaaSchHigh
import Derived.Test.YtlaflhnnddfkkaaInts
import Derived.ArgAppend
namespace Go.Proofs.Ytlaflhnnddfkkaa.sch
open Go Go.RowKit

/-- append to a literal of one number: nothing that was there turns -/
theorem append_one {P : Program} {w : World} {B : Nat} {ops : Array Oper} {rest : List Oper} {o : Oper} {a : Act} {Q : Exit → Act → World → Prop} (hgd : o.guard = none) (s x : Operand) (t : TypeId)
    (ho : o.op = .call { callee := .builtin .append, args := #[s, x], argTypes := #[t, t] })
    (base : Nat) (e : TypeId) (ht : P.underlying t = some (.slice e)) (hinfo : (P.info? e).map (fun i => (i.zero, i.size, i.bytes)) = some (some (.int .i64 0), 1, 8))
    (g : Nat) (x0 : Int) (hs : a.eval s = .slice (some ⟨g, 0, none⟩) 1 1) (hk : hp.Blk w g e [.int .i64 x0]) (hbg : base ≤ g) (hbase : base ≤ w.heap.size) (v : Value) (l : List Int) (hx : a.eval x = v) (hv : hp.IsInts w B v l)
    (hbytes : 1 + l.length ≤ 17592186044416)
    (h : ∀ u' w', Below w.heap.size w w' → w'.ownsRow base e 1 u' (1 + l.length) ((x0 :: l).map (Value.int .i64)) → wpList P ops Q rest (a.put o.dst u') w') : wpList P ops Q (o :: rest) a w := by
  obtain ⟨i, hi, hz, hsz, hby⟩ := info_parts hinfo
  have own0 : w.ownsRow base e 1 (.slice (some ⟨g, 0, none⟩) 1 1) 1 [.int .i64 x0] := ⟨by simp, .inr ⟨g, 1, #[.int .i64 x0], rfl, hbg, hk, Nat.le_refl _, by simp [maxLen], by simp, by simp⟩⟩
  obtain ⟨ad, cap, rfl, hn, hm, hw, hc⟩ := hv
  cases ad with
  | none =>
    obtain rfl := hn.1 rfl
    have hl : l = [] := by
      cases l with
      | nil => rfl
      | cons y l => obtain ⟨_, _, h, _⟩ := hc (by simp); cases h
    subst hl
    exact wpList_append_own_none hgd s x t ho base e i 1 ht hi _ 1 _ hs own0 hx (h _ _ (Below.refl _ _) (by simpa using own0))
  | some ad =>
    refine wpList_append_arg w hgd s x t ho e i (.int .i64 0) 1 8 ht hi hz hsz hby rfl (by decide) g 0 1 1 [.int .i64 x0] hs (by simp) (fun j u hj => by rw [Nat.zero_add, hk.cell j, hj]) ad l.length cap (l.map (Value.int .i64)) hx (by simp) ?_ (ints_oneCell _ _) (fun h0 j hj => by simp at hj; omega) (by simp [maxLen]; omega) (by omega) ?_ ?_
    · intro j y hj
      have hjl : j < l.length := by simpa using (List.getElem?_eq_some_iff.1 hj).1
      obtain ⟨b, off, he, hb, hcell⟩ := hc (by omega)
      obtain rfl := Option.some.inj he
      rw [Addr.add_lit, hcell j hjl]
      rw [← hj]
      simp [List.getD, hjl]
    · intro h0
      obtain rfl : l = [] := List.eq_nil_of_length_eq_zero (by omega)
      exact h _ _ (Below.refl _ _) (by simpa [World.setCells] using own0)
    · intro _ v' w' r1 r2
      refine h v' w' ((Below.refl _ _).grown r2 (Nat.le_refl _) (by simp)) ?_
      have r3 : w'.ownsRow w.heap.size e 1 v' (1 + l.length) ((x0 :: l).map (Value.int .i64)) := by simpa using r1
      refine ⟨r3.1, ?_⟩
      rcases r3.2 with h9 | ⟨g9, cap9, cur9, h1, h2, h3⟩
      · exact .inl h9
      · exact .inr ⟨g9, cap9, cur9, h1, by omega, h3⟩

theorem kept_other {w w' : World} {b2 s2 n2 : Nat} {e2 : TypeId} {v1 v2 : Value} {xs2 : List Value} (h2 : w.ownsRow b2 e2 s2 v2 n2 xs2) (h1 : ∀ k, v1.ownBlock = some k → k < b2) (hg : w.grownBy w' v1.ownBlock) : w'.ownsRow b2 e2 s2 v2 n2 xs2 := by
  refine h2.kept hg ?_
  cases hv : v2.ownBlock with
  | none => exact .inl rfl
  | some k =>
    right
    intro e
    have := h1 k e.symm
    have := (h2.lt k hv).1
    omega

theorem idx_cases (t : Tr) (o m : Nat) (h : o ≤ m) : idx t o = -1 ∨ ∃ k : Nat, idx t o = (k : Int) ∧ o ≤ k ∧ k ≤ m := by
  cases t with
  | nil => exact .inl rfl
  | node a b c d => exact .inr ⟨o, rfl, Nat.le_refl _, h⟩

set_option maxHeartbeats 8000000 in
theorem inner_any {ns : List Nd} (hs : ns.length ≤ 1048576) : ∀ (t : Tr) (o : Nat) (v : Value) (w : World), (∀ x ∈ keys t, (Lit.int .i64 x).wf = true) → IsNds w w.heap.size v ns → At ns t o →
    Calls Try.prog 46 #[v, .int .i64 (idx t o)] w fun e w' => (∃ u, e = .returned (.tuple #[u, .bool true]) ∧ w'.ownsRow w.heap.size 3 1 u (keys t).length ((keys t).map (Value.int .i64))) ∧ Below w.heap.size w w' := by
  intro t
  induction t with
  | nil =>
    rintro o v w - ⟨a, cap, rfl, -⟩ -
    show Calls _ _ #[_, .int .i64 (-1)] _ _
    go_enter Try.func46, Try.ntmps46
    go_wp2_with fail
    go_ret2
    exact ⟨⟨_, rfl, World.ownsRow_nil _ _ _ _⟩, Below.refl _ _⟩
  | node x m l r ihl ihr =>
    intro o v w hwf hv hat
    have hlen := hat.len
    obtain ⟨ho, hn, hal, har⟩ := hat.node
    obtain ⟨g, cap, rfl, hg, q0, q1, q2, -⟩ := hv.at hn
    simp only at q0 q1 q2
    simp only [keys] at hwf
    have hwx : (Lit.int .i64 x).wf = true := hwf x (by simp)
    have il1 := fun W (hW : Below w.heap.size w W) => ihl _ _ W (fun y hy => hwf y (by simp [hy])) (hv.on hW) hal
    have ir1 := fun W (hW : Below w.heap.size w W) => ihr _ _ W (fun y hy => hwf y (by simp [hy])) (hv.on hW) har
    have hwr : ∀ y ∈ keys r, (Lit.int .i64 y).wf = true := fun y hy => hwf y (by simp [hy])
    show Calls _ _ #[_, .int .i64 (o : Int)] _ _
    simp only [keys, List.length_append, List.length_cons] at hlen ⊢
    have cl := idx_cases l (o + 1) 1048577 (by omega)
    have cr := idx_cases r (o + 1 + (keys l).length) 2097154 (by omega)
    generalize idx l (o + 1) = li at *
    generalize idx r (o + 1 + (keys l).length) = ri at *
    obtain ⟨KL, hKL⟩ : ∃ KL, keys l = KL := ⟨_, rfl⟩
    obtain ⟨KR, hKR⟩ : ∃ KR, keys r = KR := ⟨_, rfl⟩
    rw [hKL] at il1 hlen cr ⊢
    rw [hKR] at ir1 hlen hwr ⊢
    obtain ⟨nl, hnl⟩ : ∃ nl, KL.length = nl := ⟨_, rfl⟩
    obtain ⟨nr, hnr⟩ : ∃ nr, KR.length = nr := ⟨_, rfl⟩
    rw [hnl] at il1 hlen cr ⊢
    rw [hnr] at ir1 hlen ⊢
    have hb20 : nl + nr + 1 ≤ 1048576 := by omega
    have hro0 : o < o + 1 + nl := by omega
    replace hnl := Lib.hid hnl
    replace hnr := Lib.hid hnr
    replace hwr := Lib.hid hwr
    replace hwx := Lib.hid hwx
    obtain ⟨N, hN⟩ : ∃ N, ns.length = N := ⟨_, rfl⟩
    rw [hN] at ho hs il1 ir1 ⊢
    have K := Below.refl w.heap.size w
    have p0 := fun W (hW : Below w.heap.size w W) => (hW.cell (p := ⟨g, o * 4, none⟩) hg).trans q0
    have p2 := fun W (hW : Below w.heap.size w W) => (hW.cell (p := ⟨g, o * 4 + 2, none⟩) hg).trans q2
    clear ihl ihr hv hat hn hal har hwf hN hKL hKR hlen
    rcases cl with rfl | ⟨lo, rfl, hlo, hlo2⟩ <;> rcases cr with rfl | ⟨ro, rfl, hro, hro2⟩ <;> (
      go_enter Try.func46, Try.ntmps46
      go_wp2_with (first
        | (go_at_call 46; with_reducible refine (il1 _ K).mono ?_; clear il1; rintro e w1 ⟨⟨u1, rfl, rowL⟩, hb1⟩; replace K := K.trans (hb1.mono K.size); have d2 := p2 _ K; have hg1 := Nat.lt_of_lt_of_le hg K.size; have hlt1 : ∀ k, u1.ownBlock = some k → k < w1.heap.size := fun k hk => (rowL.lt k hk).2)
        | (go_at_call 46; with_reducible refine (ir1 _ K).mono ?_; clear ir1; rintro e w2 ⟨⟨u2, rfl, rowR⟩, hb2⟩; replace K := K.trans (hb2.mono K.size); replace rowL := hp.row_on rowL hb2; clear d2 hg1; have d0 := p0 _ K; have hg1 := Nat.lt_of_lt_of_le hg K.size)
        | (at_builtin; refine hp.append_ints rfl _ _ 22 rfl w.heap.size 3 Try.underlying22 same.infoInt u1 nl KL rfl (rowL.alloc _) _ [x] rfl (hp.IsInts.of_owns (hp.row_one w2 x) rfl (by simpa using hwx.out)) (by simp; omega) (by have := K.size; simp; omega) ?_; intro u3 w3 own3 gr3; have K3 : Below w.heap.size w w3 := (K.alloc K.size _).grown gr3 (by have := K.size; simp; omega) (fun k hk => (rowL.lt k hk).1); have rowR3 := kept_other (rowR.alloc _) hlt1 gr3; (have own3' : w3.ownsRow w.heap.size 3 1 u3 (nl + 1) ((KL ++ [x]).map (Value.int .i64)) := by simpa using own3); clear own3 gr3 rowR)
        | (at_builtin; refine hp.append_ints rfl _ _ 22 rfl w.heap.size 3 Try.underlying22 same.infoInt u3 (nl + 1) (KL ++ [x]) rfl own3' u2 KR rfl (hp.IsInts.of_owns rowR3 hnr.out.symm hwr.out) (by rw [hnr.out]; omega) K3.size ?_; intro u4 w4 own4 gr4; have K4 : Below w.heap.size w w4 := K3.grown gr4 K3.size (fun k hk => (own3'.lt k hk).1)))
      go_ret2
      refine ⟨⟨_, rfl, ?_⟩, K4⟩
      rw [hnr.out] at own4
      rw [show nl + (nr + 1) = nl + 1 + nr by omega]
      simpa using own4)

/-- numbers from a place on -/
def seqI (o n : Nat) : List Int := (List.range' o n).map fun k : Nat => (k : Int)
theorem seqI_len (o n : Nat) : (seqI o n).length = n := by simp [seqI]
theorem seqI_node (o a b : Nat) : seqI o (a + (b + 1)) = ((o : Int) :: seqI (o + 1) a) ++ seqI (o + 1 + a) b := by
  unfold seqI
  rw [show a + (b + 1) = (a + b) + 1 by omega, List.range'_succ, List.map_cons, List.cons_append]
  refine congrArg _ ?_
  rw [← List.map_append, List.range'_append_1]
theorem seqI_get (o n i : Nat) (h : i < n) : (seqI o n).getD i 0 = ((o + i : Nat) : Int) := by
  simp [seqI, h]
theorem seqI_wf {o n : Nat} (h : o + n ≤ 4194304) : ∀ x ∈ seqI o n, (Lit.int .i64 x).wf = true := by
  intro x hx
  obtain ⟨k, hk, rfl⟩ := List.mem_map.1 hx
  rw [List.mem_range'_1] at hk
  simp only [Lit.wf, IntKind.min, IntKind.max, IntKind.signed, IntKind.bits, Bool.and_eq_true, decide_eq_true_eq]
  constructor <;> simp <;> omega

set_option maxHeartbeats 8000000 in
theorem outer_any {ns : List Nd} (hs : ns.length ≤ 1048576) : ∀ (t : Tr) (o : Nat) (v : Value) (w : World), IsNds w w.heap.size v ns → At ns t o →
    Calls Try.prog 47 #[v, .int .i64 (idx t o)] w fun e w' => (∃ u, e = .returned u ∧ hp.IsInts w' w'.heap.size u (seqI o (keys t).length)) ∧ Below w.heap.size w w' := by
  intro t
  induction t with
  | nil =>
    rintro o v w ⟨a, cap, rfl, -⟩ -
    show Calls _ _ #[_, .int .i64 (-1)] _ _
    go_enter Try.func47, Try.ntmps47
    go_wp2_with fail
    go_ret
    exact ⟨⟨_, rfl, hp.IsInts.nil _ _⟩, Below.refl _ _⟩
  | node x m l r ihl ihr =>
    intro o v w hv hat
    have hlen := hat.len
    obtain ⟨ho, hn, hal, har⟩ := hat.node
    obtain ⟨g, cap, rfl, hg, -, q1, q2, -⟩ := hv.at hn
    simp only at q1 q2
    have il1 := fun W (hW : Below w.heap.size w W) => ihl _ _ W (hv.on hW) hal
    have ir1 := fun W (hW : Below w.heap.size w W) => ihr _ _ W (hv.on hW) har
    show Calls _ _ #[_, .int .i64 (o : Int)] _ _
    simp only [keys, List.length_append, List.length_cons] at hlen ⊢
    rw [seqI_node]
    have hwf := seqI_wf (o := o) (n := (keys l).length + ((keys r).length + 1)) (by omega)
    rw [seqI_node] at hwf
    have l1 := seqI_len (o + 1) (keys l).length
    have l2 := seqI_len (o + 1 + (keys l).length) (keys r).length
    generalize idx l (o + 1) = li at *
    generalize idx r (o + 1 + (keys l).length) = ri at *
    generalize seqI (o + 1) (keys l).length = OL at *
    generalize seqI (o + 1 + (keys l).length) (keys r).length = OR at *
    have hb1 : OL.length ≤ 1048576 := by omega
    have hb2 : 1 + OL.length + OR.length ≤ 1048576 := by omega
    replace hwf := Lib.hid hwf
    obtain ⟨N, hN⟩ : ∃ N, ns.length = N := ⟨_, rfl⟩
    rw [hN] at ho hs il1 ir1 ⊢
    have K := Below.refl w.heap.size w
    clear ihl ihr hv hat hn hal har hN hlen l1 l2
    go_enter Try.func47, Try.ntmps47
    go_wp2_with fail
    apply rel.region_tail (C := fun w' => Below w.heap.size w w') (X := fun w w' => Below w.heap.size w w') 17 (by kernel_rfl) (by kernel_rfl) (by kernel_rfl) (by kernel_rfl) (K.drew)
    (apply rel.walk_val; (focus (intro wq hq hf; go_wp2; refine ⟨hq, Below.refl _ _, ?_, rfl⟩; (show rel.slot _ _ = _; simp only [rel.slot_lit, List.getD_cons_succ, List.getD_cons_zero]; (first | done | exact rfl)))); (simp only [rel.put_lit, List.set_cons_succ, List.set_cons_zero]))
    (apply rel.walk_rel (fun u w' => ∃ g, u = .slice (some ⟨g, 0, none⟩) 1 1 ∧ w.heap.size ≤ g ∧ hp.Blk w' g 3 [.int .i64 (o : Int)]) ⟨_, rfl⟩ (fun u w1 w2 h1 h2 => by obtain ⟨g, he, hl, hk⟩ := h2; exact ⟨g, he, hl, hk.on h1⟩); (focus (intro wq hq hf; go_wp2; refine ⟨hq.alloc hq.size _, (Below.refl _ _).alloc (Nat.le_refl _) _, ?_, rfl⟩; (show ∃ g, rel.slot _ _ = _ ∧ _; simp only [rel.slot_lit, List.getD_cons_succ, List.getD_cons_zero]; exact ⟨_, rfl, hq.size, hp.Blk.new _ _ _⟩))); (intro u wu _ hu; obtain ⟨gs, rfl, -, -⟩ := hu; (simp only [rel.put_lit, List.set_cons_succ, List.set_cons_zero])))
    (apply rel.walk_val; (focus (intro wq hq hf; go_wp2; refine ⟨hq, Below.refl _ _, ?_, rfl⟩; (show rel.slot _ _ = _; simp only [rel.slot_lit, List.getD_cons_succ, List.getD_cons_zero]; (first | done | exact rfl)))); (simp only [rel.put_lit, List.set_cons_succ, List.set_cons_zero]))
    (apply rel.walk_val; (focus (intro wq hq hf; go_wp2; refine ⟨hq, Below.refl _ _, ?_, rfl⟩; (show rel.slot _ _ = _; simp only [rel.slot_lit, List.getD_cons_succ, List.getD_cons_zero]; (first | done | exact rfl)))); (simp only [rel.put_lit, List.set_cons_succ, List.set_cons_zero]))
    (apply rel.walk_val; (focus (intro wq hq hf; go_wp2; refine ⟨hq, Below.refl _ _, ?_, rfl⟩; (show rel.slot _ _ = _; simp only [rel.slot_lit, List.getD_cons_succ, List.getD_cons_zero]; (first | done | exact rfl)))); (simp only [rel.put_lit, List.set_cons_succ, List.set_cons_zero]))
    (apply rel.walk_val; (focus (intro wq hq hf; go_wp2; refine ⟨hq, Below.refl _ _, ?_, rfl⟩; (show rel.slot _ _ = _; simp only [rel.slot_lit, List.getD_cons_succ, List.getD_cons_zero]; (first | done | exact rfl)))); (simp only [rel.put_lit, List.set_cons_succ, List.set_cons_zero]))
    (apply rel.walk_val; (focus (intro wq hq hf; go_wp2; refine ⟨hq, Below.refl _ _, ?_, rfl⟩; (show rel.slot _ _ = _; simp only [rel.slot_lit, List.getD_cons_succ, List.getD_cons_zero]; (first | done | exact rfl)))); (simp only [rel.put_lit, List.set_cons_succ, List.set_cons_zero]))
    ((apply rel.walk_val; (focus (intro wq hq hf; (have d0 := (hq.cell (p := ⟨g, o * 4 + 1, none⟩) hg).trans q1); go_wp2; refine ⟨hq, Below.refl _ _, ?_, rfl⟩; (show rel.slot _ _ = _; simp only [rel.slot_lit, List.getD_cons_succ, List.getD_cons_zero]; (first | done | exact rfl)))); (simp only [rel.put_lit, List.set_cons_succ, List.set_cons_zero])))
    (apply rel.walk_rel (fun u w' => hp.IsInts w' w'.heap.size u (OL)) ⟨_, rfl⟩ (fun u w1 w2 h1 h2 => h2.on h1); (focus (intro wq hq hf; go_wp2_with (go_at_call 47; with_reducible refine (il1 _ hq).mono ?_; rintro e w'' ⟨⟨u, rfl, hu⟩, hb⟩); refine ⟨hq.trans (hb.mono hq.size), hb, ?_, rfl⟩; (show hp.IsInts _ _ (rel.slot _ _) _; simp only [rel.slot_lit, List.getD_cons_succ, List.getD_cons_zero]; exact hu))); (intro u wu _ hu; obtain ⟨pl, c_pl, rfl, -⟩ := hu; (simp only [rel.put_lit, List.set_cons_succ, List.set_cons_zero])))
    (apply rel.walk_rel (fun u w' => w'.ownsRow w.heap.size 3 1 u (1 + OL.length) (((o : Int) :: OL).map (Value.int .i64))) ⟨_, rfl⟩ (fun u w1 w2 h1 h2 => hp.row_on h2 h1); (focus (intro wq hq hf; (obtain ⟨γs, hes, hlg, hks⟩ : ∃ g, Value.slice (some ⟨gs, 0, none⟩) 1 1 = .slice (some ⟨g, 0, none⟩) 1 1 ∧ w.heap.size ≤ g ∧ hp.Blk wq g 3 [.int .i64 (o : Int)] := hf.get 1 rfl rfl); (obtain rfl : gs = γs := by simpa using hes); (have hIl : hp.IsInts wq wq.heap.size _ OL := hf.get 0 rfl rfl); go_wp2_with (at_builtin; refine append_one rfl _ _ 22 rfl w.heap.size 3 Try.underlying22 same.infoInt gs (o : Int) rfl hks hlg hq.size _ OL rfl hIl (by omega) ?_; intro u' w'' hb hr); refine ⟨hq.trans (hb.mono hq.size), hb, ?_, rfl⟩; (show World.ownsRow _ _ _ _ (rel.slot _ _) _ _; simp only [rel.slot_lit, List.getD_cons_succ, List.getD_cons_zero]; exact hr))); (intro u wu _ hu; obtain ⟨a9, c9, rfl⟩ := rowN_val hu; (simp only [rel.put_lit, List.set_cons_succ, List.set_cons_zero])))
    (apply rel.walk_val; (focus (intro wq hq hf; go_wp2; refine ⟨hq, Below.refl _ _, ?_, rfl⟩; (show rel.slot _ _ = _; simp only [rel.slot_lit, List.getD_cons_succ, List.getD_cons_zero]; (first | done | exact rfl)))); (simp only [rel.put_lit, List.set_cons_succ, List.set_cons_zero]))
    (apply rel.walk_val; (focus (intro wq hq hf; go_wp2; refine ⟨hq, Below.refl _ _, ?_, rfl⟩; (show rel.slot _ _ = _; simp only [rel.slot_lit, List.getD_cons_succ, List.getD_cons_zero]; (first | done | exact rfl)))); (simp only [rel.put_lit, List.set_cons_succ, List.set_cons_zero]))
    (apply rel.walk_val; (focus (intro wq hq hf; go_wp2; refine ⟨hq, Below.refl _ _, ?_, rfl⟩; (show rel.slot _ _ = _; simp only [rel.slot_lit, List.getD_cons_succ, List.getD_cons_zero]; (first | done | exact rfl)))); (simp only [rel.put_lit, List.set_cons_succ, List.set_cons_zero]))
    (apply rel.walk_val; (focus (intro wq hq hf; go_wp2; refine ⟨hq, Below.refl _ _, ?_, rfl⟩; (show rel.slot _ _ = _; simp only [rel.slot_lit, List.getD_cons_succ, List.getD_cons_zero]; (first | done | exact rfl)))); (simp only [rel.put_lit, List.set_cons_succ, List.set_cons_zero]))
    (apply rel.walk_val; (focus (intro wq hq hf; go_wp2; refine ⟨hq, Below.refl _ _, ?_, rfl⟩; (show rel.slot _ _ = _; simp only [rel.slot_lit, List.getD_cons_succ, List.getD_cons_zero]; (first | done | exact rfl)))); (simp only [rel.put_lit, List.set_cons_succ, List.set_cons_zero]))
    ((apply rel.walk_val; (focus (intro wq hq hf; (have d0 := (hq.cell (p := ⟨g, o * 4 + 2, none⟩) hg).trans q2); go_wp2; refine ⟨hq, Below.refl _ _, ?_, rfl⟩; (show rel.slot _ _ = _; simp only [rel.slot_lit, List.getD_cons_succ, List.getD_cons_zero]; (first | done | exact rfl)))); (simp only [rel.put_lit, List.set_cons_succ, List.set_cons_zero])))
    (apply rel.walk_rel (fun u w' => hp.IsInts w' w'.heap.size u (OR)) ⟨_, rfl⟩ (fun u w1 w2 h1 h2 => h2.on h1); (focus (intro wq hq hf; go_wp2_with (go_at_call 47; with_reducible refine (ir1 _ hq).mono ?_; rintro e w'' ⟨⟨u, rfl, hu⟩, hb⟩); refine ⟨hq.trans (hb.mono hq.size), hb, ?_, rfl⟩; (show hp.IsInts _ _ (rel.slot _ _) _; simp only [rel.slot_lit, List.getD_cons_succ, List.getD_cons_zero]; exact hu))); (intro u wu _ hu; obtain ⟨pr, c_pr, rfl, -⟩ := hu; (simp only [rel.put_lit, List.set_cons_succ, List.set_cons_zero])))
    refine rel.walk_nil ?_
    intro w9 K9 hF
    have hr9 : w9.ownsRow w.heap.size 3 1 (.slice a9 (1 + OL.length) c9) (1 + OL.length) (((o : Int) :: OL).map (Value.int .i64)) := hF _ (List.mem_cons_of_mem _ (List.mem_cons_self ..))
    have hu9 : hp.IsInts w9 w9.heap.size _ OR := hF _ (List.mem_cons_self ..)
    clear hF
    simp only [List.drop_succ_cons, List.drop_zero]
    go_wp2_with (at_builtin; refine hp.append_ints rfl _ _ 22 rfl w.heap.size 3 Try.underlying22 same.infoInt _ (1 + OL.length) ((o : Int) :: OL) rfl hr9 _ OR rfl hu9 (by omega) K9.size ?_; intro u4 w4 own4 gr4)
    go_ret
    refine ⟨⟨_, rfl, hp.IsInts.of_owns own4 (by simp; omega) hwf.out⟩, K9.grown gr4 K9.size (fun k hk => (hr9.lt k hk).1)⟩

set_option maxHeartbeats 8000000 in
theorem shaped_any {t : Tr} {v v1 : Value} {K : List Int} {w : World} (hv : IsNds w w.heap.size v (shp t 0)) (hv1 : hp.IsInts w w.heap.size v1 K) (hk : keys t = K) (hs : K.length ≤ 1048576) :
    Calls Try.prog 20 #[v, v1] w fun e w' => e = .returned (.bool true) ∧ Below w.heap.size w w' := by
  have hns : (shp t 0).length = K.length := by rw [shp_len, hk]
  have hin := fun W (hW : Below w.heap.size w W) => inner_any (ns := shp t 0) (by omega) t 0 v W (by rw [hk]; exact hv1.wf) (hv.on hW) (At.top t)
  have hou := fun W (hW : Below w.heap.size w W) => outer_any (ns := shp t 0) (by omega) t 0 v W (hv.on hW) (At.top t)
  rw [hk] at hin hou
  have hwf := Lib.hid hv1.wf
  obtain ⟨a1, c1, rfl, hn1, -, -, hc1⟩ := hv1
  obtain ⟨a0, c0, rfl, -⟩ := hv
  rw [hns] at hin hou ⊢
  obtain ⟨N, hN⟩ : ∃ N, K.length = N := ⟨_, rfl⟩
  rcases Nat.eq_zero_or_pos N with h0 | h0
  · have hK0 : K.length = 0 := by omega
    clear hin hou hc1 hs hns hn1 hN
    rw [hK0]
    go_enter Try.func20, Try.ntmps20
    go_wp2_with fail
    go_ret
    exact ⟨rfl, Below.refl _ _⟩
  · have hid : idx t 0 = 0 := by
      cases t with
      | nil => rw [← hk] at hN; simp [keys] at hN; omega
      | node a b c d => rfl
    rw [hid] at hin hou
    have hsl := seqI_len 0 K.length
    have hsg := seqI_get 0 K.length
    obtain ⟨Q, hQ⟩ : ∃ Q, seqI 0 K.length = Q := ⟨_, rfl⟩
    rw [hQ] at hou hsl hsg
    rw [hN] at hin hou hs hsl hsg hc1 ⊢
    obtain ⟨b, off, rfl, hbb, hce⟩ := hc1 h0
    have H1 := hin w (Below.refl _ _)
    replace hN := Lib.hid hN
    replace hsl := Lib.hid hsl
    clear hin hc1 hid hns hn1 hQ hk
    go_enter Try.func20, Try.ntmps20
    go_wp2_with (go_at_call 46; (with_reducible refine H1.mono ?_); clear H1; rintro e w1 ⟨⟨u1, rfl, row1⟩, hb1⟩; (obtain ⟨a2, c2, rfl⟩ := rowN_val row1))
    have hI1 : hp.IsInts w1 w1.heap.size (.slice a2 N c2) K := hp.IsInts.of_owns row1 hN.out.symm hwf.out
    obtain ⟨b2, off2, rfl, hb2, hce2⟩ := hI1.at (by rw [hN.out]; exact h0)
    rw [hN.out] at hce2
    clear row1 hI1
    go_loopw [7] (fun i wr => ∃ k : Nat, i = .int .i64 k ∧ k ≤ N ∧ Below w1.heap.size w1 wr) (fun i _ => N - (intOf i).toNat)
    case atStart => exact ⟨0, rfl, Nat.zero_le _, Below.refl _ _⟩
    case round =>
      obtain ⟨k, rfl, hk, hbW⟩ := hrel
      by_cases hlt : k < N
      · have e1 := (hbW.cell (p := ⟨b2, off2 + k, none⟩) hb2).trans (hce2 k hlt)
        have e2 := ((hb1.trans (hbW.mono hb1.size)).cell (p := ⟨b, off + k, none⟩) hbb).trans (hce k hlt)
        obtain ⟨x, hx⟩ : ∃ x, K.getD k 0 = x := ⟨_, rfl⟩
        rw [hx] at e1 e2
        clear hce hce2 hsg hx hou
        go_wp2_with fail
        go_big_region
        go_wp2_with fail
        go_roundw
        case rel => exact ⟨k + 1, by go_num, by omega, hbW.drew⟩
        case measure => simp [intOf]; omega
      · obtain rfl : k = N := by omega
        have hb1W := hb1.trans (hbW.mono hb1.size)
        have H2 := hou _ hb1W
        clear hou hce hce2
        go_wp2_with (go_at_call 47; (with_reducible refine H2.mono ?_); clear H2; rintro e w2 ⟨⟨u2, rfl, hI2⟩, hb3⟩; (have hI3 := hI2); (obtain ⟨a3, c3, rfl, -⟩ := hI3))
        obtain ⟨b3, off3, rfl, hb3l, hce3⟩ := hI2.at (by rw [hsl.out]; exact h0)
        rw [hsl.out] at hce3 ⊢
        have hb4 := hb1W.trans (hb3.mono hb1W.size)
        clear hI2 hb3 hbW hb1W
        go_loopw [9] (fun i wr => ∃ j : Nat, i = .int .i64 j ∧ j ≤ k ∧ Below w2.heap.size w2 wr) (fun i _ => k - (intOf i).toNat)
        case atStart => exact ⟨0, rfl, Nat.zero_le _, Below.refl _ _⟩
        case round =>
          rename World => W
          obtain ⟨j, rfl, hj, hbW⟩ := hrel
          by_cases hlt : j < k
          · have e1 := (hbW.cell (p := ⟨b3, off3 + j, none⟩) hb3l).trans (hce3 j hlt)
            rw [hsg j hlt, Nat.zero_add] at e1
            clear hce3 hsg
            go_wp2_with fail
            go_roundw
            case rel => exact ⟨j + 1, by go_num, by omega, hbW⟩
            case measure => simp [intOf]; omega
          · obtain rfl : j = k := by omega
            clear hce3 hsg
            go_wp2_with fail
            go_ret
            exact ⟨rfl, hb4.trans (hbW.mono hb4.size)⟩
end Go.Proofs.Ytlaflhnnddfkkaa.sch
