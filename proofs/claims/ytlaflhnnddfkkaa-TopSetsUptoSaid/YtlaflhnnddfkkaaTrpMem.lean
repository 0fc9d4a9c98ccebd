/- Package treap: a growing tree and a tree that is taken apart, in memory. -/
import Derived.Test.YtlaflhnnddfkkaaTrpTr
import Derived.Test.YtlaflhnnddfkkaaSchNds
import Derived.ArgAppend
namespace Go.Proofs.Ytlaflhnnddfkkaa.trp
open Go Go.RowKit
open Go.Proofs.Ytlaflhnnddfkkaa.sch
set_option linter.unusedVariables false

abbrev tyG : TypeId := 93
abbrev tyR : TypeId := 95

/-! ### what changes -/
/-- all but a block and a row's block stays -/
structure Chg (b : Nat) (r : Option Nat) (w w' : World) : Prop where
  os : w'.os = w.os
  tape : w'.tape = w.tape
  output : w'.output = w.output
  size : w.heap.size ≤ w'.heap.size
  block : ∀ k, k < w.heap.size → k ≠ b → some k ≠ r → w'.heap[k]? = w.heap[k]?
/-- the same row's block, or a new one -/
def Fr (w : World) (r r' : Option Nat) : Prop := r' = r ∨ ∃ k, r' = some k ∧ w.heap.size ≤ k
section
variable {w w' w'' : World} {b : Nat} {r r' r'' : Option Nat}
theorem Chg.refl (b : Nat) (r : Option Nat) (w : World) : Chg b r w w := ⟨rfl, rfl, rfl, Nat.le_refl _, fun _ _ _ _ => rfl⟩
theorem Fr.refl (w : World) (r : Option Nat) : Fr w r r := .inl rfl
theorem Fr.trans (h : Fr w r r') (h' : Fr w' r' r'') (hs : w.heap.size ≤ w'.heap.size) : Fr w r r'' := by
  rcases h' with rfl | ⟨k, rfl, hk⟩
  · exact h
  · exact .inr ⟨k, rfl, by omega⟩
theorem Fr.old (h : Fr w' r r') (hs : w.heap.size ≤ w'.heap.size) : Fr w r r' := by
  rcases h with rfl | ⟨k, rfl, hk⟩
  · exact .inl rfl
  · exact .inr ⟨k, rfl, by omega⟩
theorem Chg.of_below (h : Below w.heap.size w w') : Chg b r w w' := ⟨h.os, h.tape, h.output, h.size, fun k hk _ _ => h.block k hk⟩
theorem Chg.of_grown (h : w.grownBy w' r) : Chg b r w w' := ⟨h.os, h.tape, h.output, h.size, fun k hk _ h2 => h.block k hk h2⟩
theorem Chg.trans (h : Chg b r w w') (h' : Chg b r' w' w'') (hf : Fr w r r') : Chg b r w w'' := by
  refine ⟨h'.os.trans h.os, h'.tape.trans h.tape, h'.output.trans h.output, Nat.le_trans h.size h'.size, fun k hk h1 h2 => (h'.block k (Nat.lt_of_lt_of_le hk h.size) h1 fun e => ?_).trans (h.block k hk h1 h2)⟩
  rcases hf with rfl | ⟨j, rfl, hj⟩
  · exact h2 e
  · cases e; omega
theorem Chg.below {B : Nat} (h : Chg b r w w') (hb : B ≤ b) (hr : ∀ k, r = some k → B ≤ k) (hB : B ≤ w.heap.size) : Below B w w' :=
  ⟨h.os, h.tape, h.output, h.size, fun k hk => h.block k (by omega) (by omega) fun e => by have := hr k e.symm; omega⟩
theorem Chg.blk (h : Chg b r w w') {g : Nat} {t : TypeId} {cs : List Value} (hg : hp.Blk w g t cs) (h1 : g ≠ b) (h2 : some g ≠ r) : hp.Blk w' g t cs := (h.block g hg.lt h1 h2).trans hg
theorem Chg.drew (h : Chg b r w w') : Chg b r w w'.drew := ⟨h.os, h.tape, h.output, h.size, h.block⟩
theorem Chg.alloc (h : Chg b r w w') (o : Obj) : Chg b r w (w'.alloc o) := ⟨h.os, h.tape, h.output, by have := h.size; simp; omega, fun k hk h1 h2 => (Below.heap_alloc w' o k (Nat.lt_of_lt_of_le hk h.size)).trans (h.block k hk h1 h2)⟩
theorem Chg.set (h : Chg b r w w') (o : Nat) (v : Value) : Chg b r w (w'.setCell ⟨b, o, none⟩ v) :=
  ⟨h.os, h.tape, h.output, by simpa [World.setCell] using h.size, fun k hk h1 h2 => (Below.heap_setCell w' ⟨b, o, none⟩ v k h1).trans (h.block k hk h1 h2)⟩
theorem Chg.setNew (h : Chg b r w w') {g : Nat} (hg : w.heap.size ≤ g) (o : Nat) (v : Value) : Chg b r w (w'.setCell ⟨g, o, none⟩ v) :=
  ⟨h.os, h.tape, h.output, by simpa [World.setCell] using h.size, fun k hk h1 h2 => (Below.heap_setCell w' ⟨g, o, none⟩ v k (by show k ≠ g; omega)).trans (h.block k hk h1 h2)⟩
theorem Chg.grown (h : Chg b r w w') (hg : w'.grownBy w'' r) : Chg b r w w'' :=
  ⟨hg.os.trans h.os, hg.tape.trans h.tape, hg.output.trans h.output, Nat.le_trans h.size hg.size, fun k hk h1 h2 => (hg.block k (Nat.lt_of_lt_of_le hk h.size) h2).trans (h.block k hk h1 h2)⟩
end

/-- one thing more, of several cells, to a row of the call's own: its block is the old one or a new one -/
theorem wpList_append_own2 {P : Program} (w : World) {ops : Array Oper} {rest : List Oper} {o : Oper} {a : Act} {Q : Exit → Act → World → Prop} (hgd : o.guard = none) (s x : Operand) (t : TypeId)
    (ho : o.op = .call { callee := .builtin .append, args := #[s, x], argTypes := #[t, t] })
    (base : Nat) (e : TypeId) (i : TypeInfo) (z : Value) (size bytes : Nat) (ht : P.underlying t = some (.slice e)) (hi : P.info? e = some i) (hz : i.zero = some z)
    (hsize : i.size = size) (hby : i.bytes = bytes) (hzs : z.cells.size = size) (hsz : 0 < size)
    (v : Value) (n : Nat) (xs : List Value) (hs : a.eval s = v) (hown : w.ownsRow base e size v n xs)
    (ad : Addr) (c : Nat) (news : List Value) (hx : a.eval x = .slice (some ad) 1 c) (hl : news.length = size) (hnews : ∀ j u, news[j]? = some u → w.cell? (ad.add j) = some u) (h1 : ∀ u ∈ news, u.oneCell' = true)
    (h63 : n + 1 ≤ maxLen) (hbytes : (n + 1) * bytes ≤ 140737488355328) (hbase : base ≤ w.heap.size)
    (h : ∀ v' w', w'.ownsRow base e size v' (n + 1) (xs ++ news) → w.grownBy w' v.ownBlock → Fr w v.ownBlock v'.ownBlock → w'.ownsRow base e size v n xs → (∀ u, w.ownsRow base e size u (n + 1) (xs ++ news) → w'.ownsRow base e size u (n + 1) (xs ++ news)) → wpList P ops Q rest (a.put o.dst v') w') : wpList P ops Q (o :: rest) a w := by
  have hown0 := hown
  obtain ⟨hlx, hown'⟩ := hown
  have hl' : news.length = 1 * size := by omega
  have hnone : ∀ w' : World, w.grownBy w' none → ∀ u k ys, w.ownsRow base e size u k ys → w'.ownsRow base e size u k ys := fun w' hg u k ys hu => hu.kept hg (by cases u.ownBlock <;> simp)
  rcases hown' with ⟨rfl, rfl⟩ | ⟨g, cap, cur, rfl, hb, hg, hnc, hcm, hcs, htk⟩
  · have hx0 : xs = [] := List.eq_nil_of_length_eq_zero (by simpa using hlx)
    subst hx0
    refine wpList_append_own w hgd s x t ho w.heap.size e i z size bytes ht hi hz hsize hby hzs hsz _ 0 [] hs (World.ownsRow_nil _ _ _ _) ad 1 c news hx hl' hnews h1 h63 hbytes (Nat.le_refl _) ?_
    intro v' w' hr hgr _
    refine h v' w' ⟨hr.1, ?_⟩ hgr ?_ (World.ownsRow_nil _ _ _ _) (hnone w' hgr · _ _)
    · rcases hr.2 with ⟨h2, h3⟩ | ⟨g, cap, cur, h2, h3, h4⟩
      · omega
      · exact .inr ⟨g, cap, cur, h2, by omega, h4⟩
    · rcases hr.2 with ⟨h2, h3⟩ | ⟨g, cap, cur, rfl, h3, h4⟩
      · omega
      · exact .inr ⟨g, rfl, h3⟩
  · have hk : hp.Blk w g e cur.toList := by unfold hp.Blk; rw [hg]
    have hcell : ∀ j u, xs[j]? = some u → w.cell? ⟨g, 0 + j, none⟩ = some u := by
      intro j u hj
      rw [Nat.zero_add]
      rw [hk.cell, ← hj, ← htk, List.getElem?_take_of_lt]
      rw [← htk] at hj
      have := (List.getElem?_eq_some_iff.1 hj).1
      simp at this
      omega
    by_cases hroom : n + 1 ≤ cap
    · have hfit : n * i.size + news.length ≤ cur.size := by
        rw [hl, hcs, hsize, ← Nat.succ_mul]
        exact Nat.mul_le_mul_right _ hroom
      refine wpList_plain hgd fun K hK => ?_
      have hr := run_append_room (P := P) w t o.type e i ht hi g n cap cur hg ad 1 c news (by rw [hsize]; exact hl') hnews h1 hroom hfit
      unfold Oper.wp
      simp [execOp, ho, resolve, invoke, builtin, hs, hx, hr, Result.andThen]
      rw [hl, hsize] at hfit
      have hnew := setRow_heap w g cur (cur.toList.take (n * i.size) ++ news ++ cur.toList.drop (n * i.size + news.length)).toArray e _ hg
      have hsz' : (cur.toList.take (n * i.size) ++ news ++ cur.toList.drop (n * i.size + news.length)).toArray.size = cur.size := by
        simp only [List.size_toArray, List.length_append, List.length_take, List.length_drop, Array.length_toList, hsize, hl]
        omega
      have htn : (cur.toList.take (n * i.size) ++ news ++ cur.toList.drop (n * i.size + news.length)).toArray.toList.take ((n + 1) * size) = xs ++ news := by
        rw [hsize, htk]
        simp only
        rw [show (n + 1) * size = (xs ++ news).length by rw [List.length_append, hlx, hl, Nat.succ_mul]]
        first | exact List.take_left | (rw [← List.append_assoc]; exact List.take_left)
      have hto : (cur.toList.take (n * i.size) ++ news ++ cur.toList.drop (n * i.size + news.length)).toArray.toList.take (n * size) = xs := by
        rw [hsize, htk]
        simp only [List.append_assoc]
        rw [← hlx]
        exact List.take_left
      have hoth : w.grownBy (w.setRow g (cur.toList.take (n * i.size) ++ news ++ cur.toList.drop (n * i.size + news.length)).toArray) (some g) := ⟨rfl, rfl, rfl, by simp, fun k _ hk => setRow_other w g k _ (fun e => hk (by simp [e]))⟩
      simp only [List.append_assoc] at hnew hsz' htn hto hoth
      have hln : (xs ++ news).length = (n + 1) * size := by rw [List.length_append, hlx, hl, Nat.succ_mul]
      refine hK _ _ (h _ _ ⟨hln, .inr ⟨g, cap, _, rfl, hb, hnew, hroom, hcm, by rw [hsz', hcs], htn⟩⟩ hoth (.inl rfl) ⟨hlx, .inr ⟨g, cap, _, rfl, hb, hnew, hnc, hcm, by rw [hsz', hcs], hto⟩⟩ ?_)
      intro u hu
      by_cases hug : u.ownBlock = some g
      · refine ⟨hln, ?_⟩
        rcases hu.2 with ⟨rfl, _⟩ | ⟨g', cap', cur', rfl, hb', hg', hnc', hcm', hcs', htk'⟩
        · cases hug
        · simp only [Value.ownBlock, Option.some.injEq] at hug
          subst hug
          rw [hg] at hg'
          simp only [Option.some.injEq, Obj.cells.injEq, and_true, true_and] at hg'
          subst hg'
          exact .inr ⟨_, cap', _, rfl, hb', hnew, hnc', hcm', by rw [hsz', hcs'], htn⟩
      · exact hu.kept hoth (.inr hug)
    · refine wpList_append_arg w hgd s x t ho e i z size bytes ht hi hz hsize hby hzs hsz g 0 n cap xs hs hlx hcell ad 1 c news hx hl' hnews h1 (fun h => absurd h hroom) h63 hbytes (fun h => absurd h hroom) ?_
      intro _ v' w' hr hgr
      refine h v' w' ⟨hr.1, ?_⟩ ⟨hgr.os, hgr.tape, hgr.output, hgr.size, fun k hk _ => hgr.block k hk (by simp)⟩ ?_ (hnone w' hgr _ _ _ hown0) (hnone w' hgr · _ _)
      · rcases hr.2 with ⟨h2, h3⟩ | ⟨g', cap', cur', h2, h3, h4⟩
        · omega
        · exact .inr ⟨g', cap', cur', h2, by omega, h4⟩
      · rcases hr.2 with ⟨h2, h3⟩ | ⟨g', cap', cur', rfl, h3, h4⟩
        · omega
        · exact .inr ⟨g', rfl, h3⟩

/-- a region's worlds while a row grows: its block alone changes, and the row stays -/
def Cg (W : World) (base : Nat) (e : TypeId) (size n : Nat) (xs : List Value) (v : Value) (r : Option Nat) (w' : World) : Prop := W.grownBy w' r ∧ w'.ownsRow base e size v n xs
/-- the row with one more stays, once it is there -/
def Xg (base : Nat) (e : TypeId) (size n : Nat) (ys : List Value) (r : Option Nat) (w w' : World) : Prop := w.grownBy w' r ∧ ∀ u, w.ownsRow base e size u n ys → w'.ownsRow base e size u n ys
/-- what append leaves -/
def Ap (base : Nat) (e : TypeId) (size n : Nat) (ys : List Value) (W : World) (r : Option Nat) (u : Value) (w' : World) : Prop := w'.ownsRow base e size u n ys ∧ Fr W r u.ownBlock
theorem Ap.on {base : Nat} {e : TypeId} {size n : Nat} {ys : List Value} {W w w' : World} {r k : Option Nat} {u : Value} (h : Ap base e size n ys W r u w) (hx : Xg base e size n ys k w w') : Ap base e size n ys W r u w' := ⟨hx.2 u h.1, h.2⟩
theorem gtrans {a b c : World} {r : Option Nat} (h : a.grownBy b r) (h' : b.grownBy c r) : a.grownBy c r :=
  ⟨h'.os.trans h.os, h'.tape.trans h.tape, h'.output.trans h.output, Nat.le_trans h.size h'.size, fun k hk hr => (h'.block k (Nat.lt_of_lt_of_le hk h.size) hr).trans (h.block k hk hr)⟩
section
variable {W w w' : World} {base size n : Nat} {e : TypeId} {xs ys : List Value} {v : Value} {r : Option Nat}
theorem Xg.refl (w : World) : Xg base e size n ys r w w := ⟨World.grownBy.refl _ _, fun _ h => h⟩
theorem Xg.alloc (w : World) (o : Obj) : Xg base e size n ys r w (w.alloc o) := ⟨World.grownBy_alloc _ _ _, fun _ h => h.alloc o⟩
theorem Cg.start (h : W.ownsRow base e size v n xs) : Cg W base e size n xs v r W.drew := ⟨⟨rfl, rfl, rfl, Nat.le_refl _, fun _ _ _ => rfl⟩, h⟩
theorem Cg.alloc (h : Cg W base e size n xs v r w) (o : Obj) : Cg W base e size n xs v r (w.alloc o) := ⟨gtrans h.1 (World.grownBy_alloc _ _ _), h.2.alloc o⟩
theorem Cg.blk (h : Cg W base e size n xs v r w) {g : Nat} {t : TypeId} {cs : List Value} (hg : hp.Blk W g t cs) (hne : some g ≠ r) : hp.Blk w g t cs := (h.1.block g hg.lt hne).trans hg
theorem Xg.blk (h : Xg base e size n ys r w w') {g : Nat} {t : TypeId} {cs : List Value} (hg : hp.Blk w g t cs) (hne : some g ≠ r) : hp.Blk w' g t cs := (h.1.block g hg.lt hne).trans hg
end

/-! ### trees apart from a row -/
/-- a tree in memory, in other blocks than a row's -/
def Nodx (r : Option Nat) (W : World) : Tr → Option Addr → Prop
  | .nil, p => p = none
  | .node x m l k, p => ∃ (g : Nat) (c d : Option Addr), p = some ⟨g, 0, none⟩ ∧ some g ≠ r ∧ hp.Blk W g tyT [.int .i64 x, .int .i64 m, .pointer c, .pointer d] ∧ Nodx r W l c ∧ Nodx r W k d
section
variable {W W' : World} {r r' : Option Nat}
theorem Nodx.kept (h : ∀ g cs, some g ≠ r → hp.Blk W g tyT cs → hp.Blk W' g tyT cs) : ∀ {t : Tr} {p : Option Addr}, Nodx r W t p → Nodx r W' t p
  | .nil, _, hl => hl
  | .node _ _ _ _, _, ⟨g, c, d, he, hr, hv, h1, h2⟩ => ⟨g, c, d, he, hr, h _ _ hr hv, Nodx.kept h h1, Nodx.kept h h2⟩
theorem Nodx.fr (h : Fr W r r') : ∀ {t : Tr} {p : Option Addr}, Nodx r W t p → Nodx r' W t p
  | .nil, _, hl => hl
  | .node _ _ _ _, _, ⟨g, c, d, he, hr, hv, h1, h2⟩ => ⟨g, c, d, he, by
      rcases h with rfl | ⟨k, rfl, hk⟩
      · exact hr
      · intro e
        cases e
        have := hv.lt
        omega, hv, Nodx.fr h h1, Nodx.fr h h2⟩
/-- the row grows: its block changes, or it goes to a new one -/
theorem Nodx.both (h : W.grownBy W' r) (hf : Fr W r r') : ∀ {t : Tr} {p : Option Addr}, Nodx r W t p → Nodx r' W' t p
  | .nil, _, hl => hl
  | .node _ _ _ _, _, ⟨g, c, d, he, hr, hv, h1, h2⟩ => ⟨g, c, d, he, by
      rcases hf with rfl | ⟨k, rfl, hk⟩
      · exact hr
      · intro e
        cases e
        have := hv.lt
        omega, (h.block g hv.lt hr).trans hv, Nodx.both h hf h1, Nodx.both h hf h2⟩
theorem Nodx.nod : ∀ {t : Tr} {p : Option Addr}, Nodx r W t p → Nod W.heap.size W t p
  | .nil, _, hl => hl
  | .node _ _ _ _, _, ⟨g, c, d, he, _, hv, h1, h2⟩ => ⟨g, c, d, he, hv.lt, hv, Nodx.nod h1, Nodx.nod h2⟩
theorem Nod.x {B : Nat} (h : ∀ k, r = some k → B ≤ k) : ∀ {t : Tr} {p : Option Addr}, Nod B W t p → Nodx r W t p
  | .nil, _, hl => hl
  | .node _ _ _ _, _, ⟨g, c, d, he, hg, hv, h1, h2⟩ => ⟨g, c, d, he, fun e => by have := h g e.symm; omega, hv, Nod.x h h1, Nod.x h h2⟩
theorem Nodx.chg {b : Nat} (h : Chg b r W W') {t : Tr} {p : Option Addr} {cs : List Value} (hb : hp.Blk W b tyG cs) (hn : Nodx r W t p) : Nodx r W' t p :=
  hn.kept fun g cs' h1 h2 => h.blk h2 (fun e => blk_ne h2 hb (by decide) e) h1
end

/-! ### a growing tree -/
def cellsOf (q : Option Addr × Int × Tr) : List Value := [.int .i64 q.2.1, .int .i64 (prio q.2.1), .pointer q.1, .pointer none]
def fl : Pth → List Value
  | [] => []
  | q :: st => fl st ++ cellsOf q
theorem fl_len : ∀ (st : Pth), (fl st).length = st.length * 4
  | [] => rfl
  | q :: st => by
    show (fl st ++ cellsOf q).length = _
    rw [List.length_append, fl_len st, List.length_cons]
    simp [cellsOf]
    omega
/-- a box that holds a growing tree: r is its row's block; what waits, and the tree below -/
structure Gm (W : World) (base b : Nat) (r : Option Nat) (st : Pth) (T : Tr) (v : Value) (p : Option Addr) : Prop where
  box : hp.Blk W b tyG [v, .pointer p]
  row : W.ownsRow base tyT 4 v st.length (fl st)
  own : base ≤ b
  blk : v.ownBlock = r
  lefts : ∀ q ∈ st, Nodx r W q.2.2 q.1
  tree : Nodx r W T p
/-- a growing tree with these numbers; T is what hangs below the last one -/
def Gr (W : World) (base b : Nat) (r : Option Nat) (D : List Int) (T : Tr) : Prop := ∃ st v p, Gm W base b r st T v p ∧ Tp (whole st T) ∧ keys (whole st T) = D
section
variable {W W' : World} {base b : Nat} {r r' : Option Nat} {st : Pth} {T : Tr} {v : Value} {p : Option Addr}
theorem Gm.ge (h : Gm W base b r st T v p) : ∀ k, r = some k → base ≤ k := fun k hk => (h.row.lt k (by rw [h.blk]; exact hk)).1
theorem Gm.lt (h : Gm W base b r st T v p) : ∀ k, r = some k → k < W.heap.size := fun k hk => (h.row.lt k (by rw [h.blk]; exact hk)).2
/-- others than its blocks change -/
theorem Gm.kept (h : Gm W base b r st T v p) (hk : ∀ g t cs, t = tyG ∨ t = tyT → hp.Blk W g t cs → hp.Blk W' g t cs) : Gm W' base b r st T v p :=
  ⟨hk _ _ _ (.inl rfl) h.box, row_keep h.row fun g cs hg => hk _ _ _ (.inr rfl) hg, h.own, h.blk, fun q hq => (h.lefts q hq).kept fun g cs _ hg => hk _ _ _ (.inr rfl) hg, h.tree.kept fun g cs _ hg => hk _ _ _ (.inr rfl) hg⟩
theorem Gr.kept {D : List Int} (h : Gr W base b r D T) (hk : ∀ g t cs, t = tyG ∨ t = tyT → hp.Blk W g t cs → hp.Blk W' g t cs) : Gr W' base b r D T := by
  obtain ⟨st, v, p, h1, h2⟩ := h
  exact ⟨st, v, p, h1.kept hk, h2⟩
/-- what a growing tree's change leaves -/
theorem Gm.other (h : Gm W base b r st T v p) (hc : Chg b r W W') : ∀ g t cs, t ≠ tyG → t ≠ tyT → hp.Blk W g t cs → hp.Blk W' g t cs := by
  intro g t cs h1 h2 hg
  refine hc.blk hg (fun e => blk_ne hg h.box h1 e) fun e => ?_
  rcases h.row.2 with ⟨hv, _⟩ | ⟨g', cap, cur, hv, _, hcur, _⟩
  · have := h.blk
    rw [hv] at this
    rw [← this] at e
    cases e
  · have := h.blk
    rw [hv] at this
    rw [← this] at e
    simp only [Value.ownBlock, Option.some.injEq] at e
    subst e
    unfold hp.Blk at hg
    rw [hcur] at hg
    simp at hg
    exact h2 hg.2.symm
theorem Gr.other {D : List Int} (h : Gr W base b r D T) (hc : Chg b r W W') : ∀ g t cs, t ≠ tyG → t ≠ tyT → hp.Blk W g t cs → hp.Blk W' g t cs := by
  obtain ⟨st, v, p, h1, h2⟩ := h
  exact h1.other hc
end

/-! ### a tree that is taken apart -/
/-- a box that holds what is left of a tree of the world w -/
structure Rs (w W : World) (b : Nat) (r : Option Nat) (t : Tr) (st : Wt) (v : Value) (p : Option Addr) : Prop where
  box : hp.Blk W b tyR [.pointer p, v]
  base : w.heap.size ≤ b
  blk : v.ownBlock = r
  row : W.ownsRow w.heap.size tyP 1 v st.length (ptrs st)
  tree : Nod w.heap.size w t p
  up : Up w st
  below : Below w.heap.size w W
section
variable {w W W' : World} {b b' : Nat} {r r' : Option Nat} {st st' : Wt} {t t' : Tr} {v v' : Value} {p p' : Option Addr}
theorem Rs.ge (h : Rs w W b r t st v p) : ∀ k, r = some k → w.heap.size ≤ k := fun k hk => (h.row.lt k (by rw [h.blk]; exact hk)).1
theorem Rs.lt (h : Rs w W b r t st v p) : ∀ k, r = some k → k < W.heap.size := fun k hk => (h.row.lt k (by rw [h.blk]; exact hk)).2
theorem Rs.kept (h : Rs w W b r t st v p) (hk : ∀ g t cs, t = tyR ∨ t = tyP → hp.Blk W g t cs → hp.Blk W' g t cs) (hb : Below w.heap.size w W') : Rs w W' b r t st v p :=
  ⟨hk _ _ _ (.inl rfl) h.box, h.base, h.blk, row_keep h.row fun g cs hg => hk _ _ _ (.inr rfl) hg, h.tree, h.up, hb⟩
theorem Rs.ne (h : Rs w W b r t st v p) {g : Nat} {k : TypeId} {cs : List Value} (hg : hp.Blk W g k cs) (h1 : k ≠ tyP) : some g ≠ r := by
  intro e
  rcases h.row.2 with ⟨hv, _⟩ | ⟨g', cap, cur, hv, _, hcur, _⟩
  · have := h.blk
    rw [hv] at this
    rw [← this] at e
    cases e
  · have := h.blk
    rw [hv] at this
    rw [← this] at e
    simp only [Value.ownBlock, Option.some.injEq] at e
    subst e
    unfold hp.Blk at hg
    rw [hcur] at hg
    simp at hg
    exact h1 hg.2.symm
theorem Rs.other (h : Rs w W b r t st v p) (hc : Chg b r W W') : ∀ g t cs, t ≠ tyR → t ≠ tyP → hp.Blk W g t cs → hp.Blk W' g t cs := fun _ _ _ h1 h2 hg =>
  hc.blk hg (fun e => blk_ne hg h.box h1 e) (h.ne hg h2)
/-- two rows apart -/
def Sep (r r' : Option Nat) : Prop := r = none ∨ r ≠ r'
theorem Sep.symm (h : Sep r r') : Sep r' r := by
  rcases h with rfl | h
  · cases r' with
    | none => exact .inl rfl
    | some k => exact .inr (by simp)
  · exact .inr fun e => h e.symm
theorem Rs.chg (h : Rs w W b r t st v p) (h' : Rs w W b' r' t' st' v' p') (hs : Sep r r') (hbb : b ≠ b') (hc : Chg b r W W') (hb : Below w.heap.size w W') : Rs w W' b' r' t' st' v' p' := by
  refine ⟨hc.blk h'.box (fun e => hbb e.symm) (h.ne h'.box (by decide)), h'.base, h'.blk, ?_, h'.tree, h'.up, hb⟩
  obtain ⟨g1, g2⟩ := h'.row
  refine ⟨g1, ?_⟩
  rcases g2 with g2 | ⟨g, cap, cur, hv, hbs, hg, hr⟩
  · exact .inl g2
  · refine .inr ⟨g, cap, cur, hv, hbs, ?_, hr⟩
    have hk : hp.Blk W g tyP cur.toList := by unfold hp.Blk; rw [hg]
    have hr' : r' = some g := by rw [← h'.blk, hv]; rfl
    have := hc.blk hk (fun e => blk_ne hk h.box (by decide) e) (fun e => by
      rcases hs with rfl | hs
      · cases e
      · exact hs (by rw [← e, hr']))
    unfold hp.Blk at this
    simpa using this
end
end Go.Proofs.Ytlaflhnnddfkkaa.trp
