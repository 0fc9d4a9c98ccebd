/- A function that ranges over a function: its walk in plain words; what a round does, and what stays. -/
import Derived.RangeFuncNested
import Derived.RangeFuncBound
import Derived.RangeFuncCalls
import Derived.RangeFuncLeaves
import Derived.Shelf.Abstract
import Derived.OwnWalkIn
import Derived.TacticsInMore
import Derived.LoopNIn
import Derived.LoopIn
import Derived.Maps.AppendAt
import Derived.Test.YtfbeiimmcemniaaRel
import Derived.Test.YtfbeiimmcemniaaHeap
namespace Go.Proofs.Ytfbeiimmcemniaa.rng
open Go Go.RowKit

theorem calls_of_marks {P : Program} {f : FuncId} {fn : Func} {c : Code} {args : Array Value} {w : World} {R : Ending → World → Prop} (hf : P.funcs[f]? = some fn) (hb : fn.body = some c)
    (h : c.wp P (bodyPostM Fence.wide 9 P fn R) { tmps := args ++ Array.replicate (fn.ntmps - args.size) undef, defers := [] } w) : Calls P f args w R :=
  callsIn_wide.1 (callsIn_of_wp_marks (F := Fence.wide) (n := 9) hf hb trivial (wpIn_wide.2 h) rfl)

/-- the return -/
theorem postM_ret {P : Program} {fn : Func} {R : Ending → World → Prop} {a : Act} {W : World} {D : Nat} {v : Value} (hK : W.heap[D]? = some (.deferred (some []))) (hd : a.defers = [{ target := .collected D, args := #[] }])
    (hr : (results fn a.tmps).run P (W.putObj D (.deferred none)) = .ok v (W.putObj D (.deferred none))) (hR : R (.returned v) (W.putObj D (.deferred none))) : bodyPostM Fence.wide 9 P fn R .ret a W := by
  show LeavesInM _ _ _ _ _ _ a.defers _ _
  rw [hd]
  exact ⟨by simp, .inl ⟨_, _, rfl, run_takeDeferred hK, v, hr, hR⟩⟩
/-- a return ahead of every such loop -/
theorem postM_ret0 {P : Program} {fn : Func} {R : Ending → World → Prop} {a : Act} {W : World} {v : Value} (hd : a.defers = [])
    (hr : (results fn a.tmps).run P W = .ok v W) (hR : R (.returned v) W) : bodyPostM Fence.wide 9 P fn R .ret a W := by
  show LeavesInM _ _ _ _ _ _ a.defers _ _
  rw [hd]
  exact ⟨v, hr, hR⟩

/-- a turn of one block that is no cells, from B on; or new memory -/
def Turn (B : Nat) (W W' : World) : Prop := ∃ row, W.grownBy W' row ∧ ∀ r, row = some r → B ≤ r ∧ ∃ o : Obj, W.heap[r]? = some o ∧ o.isCells = false

theorem Turn.put {B : Nat} {W : World} {l : Nat} {o : Obj} (o' : Obj) (hB : B ≤ l) (hl : W.heap[l]? = some o) (ho : o.isCells = false) : Turn B W (W.putObj l o') :=
  ⟨some l, grownBy_putObj' W l o', fun r e => by cases e; exact ⟨hB, o, hl, ho⟩⟩
theorem Turn.size {B : Nat} {W W' : World} (h : Turn B W W') : W.heap.size ≤ W'.heap.size := by obtain ⟨_, hg, _⟩ := h; exact hg.size
theorem Turn.below {B n : Nat} {w W W' : World} (h : Turn B W W') (hb : Below n w W) (hn : n ≤ B) (hs : n ≤ W.heap.size) : Below n w W' := by
  obtain ⟨row, hg, hr⟩ := h
  exact hb.grown hg hs fun k e => Nat.le_trans hn (hr k e).1
theorem Turn.blk {B : Nat} {W W' : World} {g : Nat} {t : TypeId} {cs : List Value} (h : Turn B W W') (hk : hp.Blk W g t cs) : hp.Blk W' g t cs := by
  obtain ⟨row, hg, hr⟩ := h
  refine (hg.block g hk.lt (fun e => ?_)).trans hk
  obtain ⟨_, o, ho, hc⟩ := hr g e.symm
  unfold hp.Blk at hk
  rw [hk] at ho
  cases ho
  cases hc
theorem Turn.row {B base n size : Nat} {W W' : World} {e : TypeId} {v : Value} {xs : List Value} (h : Turn B W W') (hk : W.ownsRow base e size v n xs) : W'.ownsRow base e size v n xs := by
  obtain ⟨row, hg, hr⟩ := h
  refine hk.kept hg ?_
  rcases hk.2 with ⟨rfl, _⟩ | ⟨g, cap, cur, rfl, _, hgb, _⟩
  · exact .inl rfl
  · refine .inr fun e' => ?_
    obtain ⟨_, o, ho, hc⟩ := hr g (by simpa [Value.ownBlock] using e'.symm)
    rw [hgb] at ho; cases ho; cases hc

/-- what a round does: what is no cells from B on stays, and what lay below n -/
structure Rnd (B n : Nat) (W W' : World) : Prop where
  keeps : KeepsFrom B W W'
  below : Below n W W'
section
variable {B n : Nat} {W W1 W2 : World}
theorem Rnd.refl (B n : Nat) (W : World) : Rnd B n W W := ⟨KeepsFrom.refl _ _, Below.refl _ _⟩
theorem Rnd.call (h : Rnd B n W W1) (hb : Below W1.heap.size W1 W2) (hn : n ≤ W1.heap.size) : Rnd B n W W2 :=
  ⟨h.keeps.trans ⟨hb.size, fun k _ _ hk _ => (hb.block k (Array.getElem?_eq_some_iff.1 hk).1).trans hk⟩, h.below.trans (hb.mono hn)⟩
theorem Rnd.set (h : Rnd B n W W1) {g : Nat} (hg : n ≤ g) (o : Nat) (v : Value) : Rnd B n W (W1.setCell ⟨g, o, none⟩ v) :=
  ⟨h.keeps.trans ((KeepsOthers.setCell _ _ _).from _), h.below.setCell (p := ⟨g, o, none⟩) hg _⟩
theorem Rnd.alloc (h : Rnd B n W W1) (hn : n ≤ W1.heap.size) (o : Obj) : Rnd B n W (W1.alloc o) :=
  ⟨h.keeps.trans ((KeepsOthers.alloc _ _).from _), h.below.alloc hn _⟩
theorem Rnd.drew (h : Rnd B n W W1) : Rnd B n W W1.drew := ⟨h.keeps.trans ((KeepsOthers.drew _).from _), h.below.drew⟩
theorem Rnd.trans (h : Rnd B n W W1) (k : Rnd B n W1 W2) : Rnd B n W W2 := ⟨h.keeps.trans k.keeps, h.below.trans k.below⟩
end

/-- 'out = append(out, ..)' -/
theorem appended {W w1 : World} {C n₀ B : Nat} {t e : TypeId} {size : Nat} {v v' : Value} {k m : Nat} {xs ys : List Value} (hv : hp.Blk W B t [v]) (hte : t ≠ e) (hrow : W.ownsRow n₀ e size v k xs) (hn₀ : n₀ ≤ W.heap.size) (hB : n₀ ≤ B)
    (hown' : w1.ownsRow n₀ e size v' m ys) (hgrow : W.grownBy w1 v.ownBlock) :
    hp.Blk w1 B t [v] ∧ hp.Blk (w1.setCell ⟨B, 0, none⟩ v') B t [v'] ∧ (w1.setCell ⟨B, 0, none⟩ v').ownsRow n₀ e size v' m ys ∧ Rnd C n₀ W (w1.setCell ⟨B, 0, none⟩ v') := by
  have hv1 : hp.Blk w1 B t [v] := (hgrow.block B hv.lt (hv.not_row hte hrow)).trans hv
  refine ⟨hv1, hv1.set 0 v', hp.row_set hown' hv1 hte v', Rnd.set ⟨KeepsOthers.from (KeepsOthers.of_grownBy hgrow fun j o ej hj => ?_) _, (Below.refl n₀ W).grown hgrow hn₀ fun j ej => (hrow.lt j ej).1⟩ hB 0 v'⟩
  rcases hrow.2 with ⟨rfl, _⟩ | ⟨g, cap, cur, rfl, _, hgb, _⟩
  · simp [Value.ownBlock] at ej
  · obtain rfl : g = j := by simpa [Value.ownBlock] using ej
    rw [hgb] at hj; cases hj; rfl
theorem blk_grown {W w1 : World} {g : Nat} {t e : TypeId} {cs : List Value} (h : hp.Blk W g t cs) (hte : t ≠ e) {base size k : Nat} {v : Value} {xs : List Value} (hr : W.ownsRow base e size v k xs) (hg : W.grownBy w1 v.ownBlock) : hp.Blk w1 g t cs :=
  (hg.block g h.lt (h.not_row hte hr)).trans h

variable {P : Program}

/-- THE STATEMENT 'for .. := range g' -/
theorem wp_range {α : Type} {g : Operand} {ps : Array Tmp} {assign body : Code} {Q : Exit → Act → World → Prop} {a : Act} {w : World}
    {gf : Nat} {lb : Array Value} (hg : a.eval g = .func (.func gf) #[] lb) (eg : ∀ args w, (callFunc gf args).run P w = .ok (.enter gf args) w)
    {encs : α → Array Value} {S Sp : List α → Prop} {N n₀ : Nat} (hn : n₀ ≤ w.heap.size) (hseq : SeqStopsK Fence.wide 8 P gf lb encs (Below n₀) S Sp N w) (hps : ∀ x, (encs x).size = ps.size)
    (I : List α → World → Prop) (Ix : Code → List α → World → Prop) (hI : ∀ s W W', I s W → Turn w.heap.size W W' → I s W') (hIx : ∀ c s W W', Ix c s W → Turn w.heap.size W W' → Ix c s W') (h0 : I [] w) {a₁ : α → Act}
    (hassign : ∀ (l : Nat) (x : α) (W : World) (K : Act → World → Prop), K (a₁ x) W →
      assign.wpIn (Fence.wide.inRound l) 7 P (Exit.then K (fun _ _ _ => False)) { tmps := (ps.zip (encs x)).foldl (fun t (p, v) => t.setIfInBounds p v) a.tmps, defers := [] } W)
    (hbody : ∀ (l : Nat) (pre : List α) (x : α) (W : World), I pre W → pre.length < N → body.wpIn (Fence.wide.inRound l) 7 P (fun e _ W' => match e with
      | .normal => Rnd w.heap.size n₀ W W' ∧ I (pre ++ [x]) W'
      | .ret => Rnd w.heap.size n₀ W W' ∧ Ix .ret (pre ++ [x]) W'
      | .exit id => Rnd w.heap.size n₀ W W' ∧ Ix (.exit id) (pre ++ [x]) W'
      | _ => False) (a₁ x) W)
    (hdone : ∀ (D : Nat) (xs : List α) (W : World), w.heap.size ≤ D → S xs → I xs W → W.heap[D]? = some (.deferred (some [])) → Q .normal { a with defers := { target := .collected D, args := #[] } :: a.defers } W)
    (hstop : ∀ (D : Nat) (c : Code) (pre : List α) (W : World), w.heap.size ≤ D → Sp pre → Ix c pre W → W.heap[D]? = some (.deferred (some [])) → c.wp P Q { a with defers := { target := .collected D, args := #[] } :: a.defers } W) :
    (Code.rangeFunc g ps assign body).wp P Q a w := by
  refine (wpIn_wide (n := 9)).1 ?_
  refine wpIn_rangeFunc_ownG (F := Fence.wide) (n := 9) rfl (by decide) hg trivial eg hseq (fun h k => h.trans k)
    (fun W l o o' hl h ho _ => (Turn.put (B := w.heap.size) o' hl h ho).below (Below.refl _ _) hn (by have := (Array.getElem?_eq_some_iff.1 h).1; omega)) (Below.refl _ _) hps I Ix
    (fun s W W' row hs hg hr => hI s W W' hs ⟨row, hg, hr⟩) (fun c s W W' row hs hg hr => hIx c s W W' hs ⟨row, hg, hr⟩) h0 a₁ hassign ?_ hdone (fun D c pre W h1 h2 h3 h4 => (wpIn_wide (n := 9)).2 (hstop D c pre W h1 h2 h3 h4))
  intro l pre x W hi hlen
  refine wpIn_mono (hbody l pre x W hi hlen) ?_
  intro e a' W' h
  cases e with
  | normal => exact ⟨h.1.keeps, h.1.below, h.2⟩
  | ret => exact ⟨h.1.keeps, h.2⟩
  | exit id => exact ⟨h.1.keeps, h.2⟩
  | _ => exact h.elim

/-! ### a region in a round -/
theorem rows_in {l n : Nat} {row : String} {args : Array Value} {w : World} {R : Value → World → Prop} (h : Rows P row args w R) : RowsIn (Fence.wide.inRound l) n P row args w R :=
  fun c cs _ => let ⟨v, w', r, s⟩ := h c cs; ⟨v, w', r, stepsIn_wide.2 s⟩

theorem oper_in {l n : Nat} {o : Oper} {a : Act} {w : World} {next next' : Act → World → Prop} {Q : Exit → Act → World → Prop} (hnd : ∀ c, o.op ≠ .defer c) (hn : ∀ a w, next a w → next' a w) (h : o.wp P a w next Q) :
    o.wpIn (Fence.wide.inRound l) n P a w next' Q := by
  refine ⟨fun _ _ => trivial, ?_⟩
  rw [Oper.semAt_eq _ _ _ hnd]
  unfold Oper.wp at h
  generalize (execOp a.eval o).run P w = r at h
  cases r with
  | ok x w' =>
    cases x <;> simp only [Oper.upon, Oper.uponIn] at h ⊢
    case value u => exact hn _ _ h
    case skip => exact hn _ _ h
    case defer d => exact hn _ _ h
    case enter f args =>
      refine ⟨fun h => (by cases h), CallsIn.inRound l (callsIn_wide.2 (h.mono fun e w'' h => ?_))⟩
      cases e with
      | returned v => exact hn _ _ h
      | panicked c => exact h
      | outgrown => exact h
    case row row args => exact ⟨fun h => (by cases h), rows_in (h.mono fun v w'' h => hn _ _ h)⟩
  | halt x w' =>
    cases x <;> simp only [Oper.upon, Oper.uponIn] at h ⊢
    case panic u => exact h

theorem ops_in {l n : Nat} {ops : Array Oper} {Q : Exit → Act → World → Prop} (hnd : ∀ (i : Nat) (o : Oper), ops[i]? = some o → ∀ c, o.op ≠ .defer c) (hQ : ∀ a w, ¬ Q .outgrown a w) :
    ∀ (is : List Nat) (a : Act) (w : World), wpOps P ops Q is a w → wpOpsIn (Fence.wide.inRound l) n P ops Q is a w := by
  intro is
  induction is with
  | nil => intro a w h; exact h
  | cons i is ih =>
    intro a w h
    simp only [wpOps, wpOpsIn] at h ⊢
    cases ho : ops[i]? with
    | none => rw [ho] at h; exact ih _ _ h
    | some o =>
      rw [ho] at h
      simp only at h ⊢
      split
      · rename_i hw
        rw [if_pos hw] at h
        rcases h with h | ⟨_, a', w', h⟩
        · exact oper_in (hnd i o ho) (fun a w h => ih a w h) h
        · exact (hQ _ _ h).elim
      · rename_i hw
        rw [if_neg hw] at h
        exact ⟨fun _ _ => trivial, ih _ _ h⟩

def noDeferB (ops : List Oper) : Bool := ops.all fun o => match o.op with | .defer _ => false | _ => true
theorem noDefer_spec {ops : List Oper} (h : noDeferB ops = true) (i : Nat) (o : Oper) (ho : ops.toArray[i]? = some o) (c : Call) : o.op ≠ .defer c := by
  have hm : o ∈ ops := List.mem_of_getElem? (by simpa using ho)
  have := List.all_eq_true.1 h o hm
  intro e
  rw [e] at this
  cases this

theorem region_in {id l n : Nat} {ops : List Oper} {Q : Exit → Act → World → Prop} {a : Act} {w : World} (hm : P.follows .mixedOrders = true) (hnd : noDeferB ops = true) (hQ : ∀ a w, ¬ Q .outgrown a w)
    (h : wpAny P .any ops.toArray Q ops.toArray.size (Array.replicate ops.toArray.size false) a w.drew) : (Code.region id ops.toArray true).wpIn (Fence.wide.inRound l) n P Q a w := by
  refine wpIn_region_draw fun t => ?_
  simp only [Region.schedule, hm, Bool.true_or, if_true]
  exact ops_in (noDefer_spec hnd) hQ _ _ _ (wpAny_sound ops.toArray.size t _ a _ h)
end Go.Proofs.Ytfbeiimmcemniaa.rng
