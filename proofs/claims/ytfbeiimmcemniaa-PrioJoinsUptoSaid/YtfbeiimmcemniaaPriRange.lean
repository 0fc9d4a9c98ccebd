/- A range over a function that hands on what another such range meets: a law whose rounds all go on. -/
import Derived.Test.YtfbeiimmcemniaaPriEach
namespace Go.Proofs.Ytfbeiimmcemniaa.pri
open Go Go.RowKit Go.Shelf

/-- what a round leaves: what lay below n₀, what is no cells from M on, and the boxes of type t -/
def Kp (n₀ M : Nat) (t : TypeId) (W W' : World) : Prop := Below n₀ W W' ∧ KeepsFrom M W W' ∧ ∀ g cs, hp.Blk W g t cs → hp.Blk W' g t cs
theorem Kp.trans {n₀ M : Nat} {t : TypeId} {A B C : World} (h : Kp n₀ M t A B) (k : Kp n₀ M t B C) : Kp n₀ M t A C := ⟨h.1.trans k.1, h.2.1.trans k.2.1, fun g cs x => k.2.2 g cs (h.2.2 g cs x)⟩
theorem KeepsFrom.up {B B' : Nat} {W W' : World} (h : KeepsFrom B W W') (hB : B ≤ B') : KeepsFrom B' W W' := ⟨h.size, fun k o hk => h.same k o (Nat.le_trans hB hk)⟩
theorem Kp.up {n₀ M M' : Nat} {t : TypeId} {A B : World} (h : Kp n₀ M t A B) (hM : M ≤ M') : Kp n₀ M' t A B := ⟨h.1, KeepsFrom.up h.2.1 hM, h.2.2⟩
theorem Kp.put {n₀ M l : Nat} {t : TypeId} {W : World} {o : Obj} (o' : Obj) (h1 : n₀ ≤ l) (h2 : l < M) (hl : W.heap[l]? = some o) (ho : o.isCells = false) : Kp n₀ M t W (W.putObj l o') := by
  have hlt : l < W.heap.size := (Array.getElem?_eq_some_iff.1 hl).1
  have T := rng.Turn.put (B := l) o' (Nat.le_refl _) hl ho
  refine ⟨T.below (Below.refl _ _) h1 (by omega), ⟨T.size, fun k p hk hp _ => ?_⟩, fun g cs hg => T.blk hg⟩
  rw [World.putObj_heap_other (by omega)]
  exact hp

theorem Kp.alloc {n₀ M : Nat} {t : TypeId} {W : World} (o : Obj) (h : n₀ ≤ W.heap.size) : Kp n₀ M t W (W.alloc o) := ⟨(Below.refl _ _).alloc h o, (KeepsOthers.alloc _ _).from _, fun _ _ hg => hg.alloc _⟩

variable {P : Program}
theorem range_on {g : Operand} {ps : Array Tmp} {assign body : Code} {Q : Exit → Act → World → Prop} {a : Act} {w : World} {gf : Nat} {lb : Array Value} (hg : a.eval g = .func (.func gf) #[] lb) (eg : ∀ args w, (callFunc gf args).run P w = .ok (.enter gf args) w)
    (xs : List (Int × Int)) (hps : ps.size = 1) (n₀ : Nat) (hn : n₀ ≤ w.heap.size) (t : TypeId)
    (hseq : ∀ (W1 : World) (J : List (Int × Int) → World → Prop), W1.heap.size = w.heap.size + 2 → Below w.heap.size w W1 → OwnFrom W1.heap.size J →
      (∀ pre x W, J pre W → pre.length < xs.length → YieldAt Fence.wide 0 P (w.heap.size + 1) #[.agg #[.int .i64 x.1, .int .i64 x.2]] W fun e W' => e = .returned (.bool true) ∧ J (pre ++ [x]) W' ∧ Kp n₀ W1.heap.size t W W') → J [] W1 →
      Calls P gf (#[.func (.yield (w.heap.size + 1)) #[] #[]] ++ lb) W1 fun e W' => (∃ v, e = .returned v) ∧ J xs W')
    (I : List (Int × Int) → World → Prop) (hI : OwnFrom w.heap.size I) (h0 : I [] w) {a₁ : (Int × Int) → World → Act} {tE : TypeId} {cE : (Int × Int) → List Value}
    (hassign : ∀ (l : Nat) (x : (Int × Int)) (W : World) (K : Act → World → Prop), K (a₁ x W) (W.alloc (.cells (cE x).toArray tE)) → assign.wpIn (Fence.wide.inRound l) 7 P (Exit.then K (fun _ _ _ => False)) { tmps := (ps.zip #[Value.agg #[.int .i64 x.1, .int .i64 x.2]]).foldl (fun t (p, v) => t.setIfInBounds p v) a.tmps, defers := [] } W)
    (hbody : ∀ (l : Nat) (pre : List (Int × Int)) (x : (Int × Int)) (V W : World), I pre W → hp.Blk W V.heap.size tE (cE x) → w.heap.size ≤ V.heap.size → pre.length < xs.length → body.wpIn (Fence.wide.inRound l) 7 P (fun e _ W' => e = .normal ∧ Kp n₀ w.heap.size t W W' ∧ I (pre ++ [x]) W') (a₁ x V) W)
    (hdone : ∀ W, I xs W → W.heap[w.heap.size]? = some (.deferred (some [])) → Q .normal { a with defers := { target := .collected w.heap.size, args := #[] } :: a.defers } W) :
    (Code.rangeFunc g ps assign body).wpIn Fence.wide 9 P Q a w := by
  refine wpIn_rangeFunc fun fn hfn => ?_
  -- the loop's record, by what it is doing
  obtain ⟨rc, hrc⟩ : ∃ rc : LoopState → Loop, ∀ s, rc s = { state := s, pending := none, fn, tmps := a.tmps, params := ps, assign, body, defers := w.heap.size } := ⟨fun s => { state := s, pending := none, fn, tmps := a.tmps, params := ps, assign, body, defers := w.heap.size }, fun _ => rfl⟩
  have hW1 : ((w.alloc (.deferred (some []))).alloc (.loop (rc .ready))).heap.size = w.heap.size + 2 := by simp
  have hI1 : I [] ((w.alloc (.deferred (some []))).alloc (.loop (rc .ready))) := hI.alloc _ (hI.alloc _ h0)
  have hb1 : Below w.heap.size w ((w.alloc (.deferred (some []))).alloc (.loop (rc .ready))) := ((Below.refl _ w).alloc (Nat.le_refl _) _).alloc (by simp) _
  have hd1 : ((w.alloc (.deferred (some []))).alloc (.loop (rc .ready))).heap[w.heap.size]? = some (.deferred (some [])) := (Below.heap_alloc _ _ _ (by simp)).trans (World.alloc_heap_new w _)
  have hr1 : ((w.alloc (.deferred (some []))).alloc (.loop (rc .ready))).heap[w.heap.size + 1]? = some (.loop (rc .ready)) := by
    have := World.alloc_heap_new (w.alloc (.deferred (some []))) (.loop (rc .ready))
    simpa using this
  have hent := run_enterLoop_outer (P := P) (w := w) fn a.tmps ps assign body
  rw [← hrc] at hent
  generalize (w.alloc (.deferred (some []))).alloc (.loop (rc .ready)) = W1 at *
  refine ⟨w.heap.size + 1, [{ target := .collected w.heap.size, args := #[] }], W1, { target := .fn (.func gf) lb, args := #[.func (.yield (w.heap.size + 1)) #[] #[]] }, W1, gf, #[.func (.yield (w.heap.size + 1)) #[] #[]] ++ lb, W1, hent, ?_, (fun _ _ => trivial), ?_, (fun _ => by decide), ?_⟩
  · simp only [resolve, hg]
    simp [go_sem]
  · simp [invoke, go_sem, eg]
  refine callsIn_wide.2 ((hseq W1 (fun pre W => I pre W ∧ W.heap[w.heap.size + 1]? = some (.loop (rc .ready)) ∧ W.heap[w.heap.size]? = some (.deferred (some []))) hW1 hb1 ?_ ?_ ⟨hI1, hr1, hd1⟩).mono ?_)
  · rintro s A B row ⟨h1, h2, h3⟩ hgr hrow
    rw [hW1] at hrow
    refine ⟨hI s A B row h1 hgr fun r e => ⟨by have := (hrow r e).1; omega, (hrow r e).2⟩, ?_, ?_⟩
    · exact (hgr.block _ (Array.getElem?_eq_some_iff.1 h2).1 fun e => by have := (hrow _ e.symm).1; omega).trans h2
    · exact (hgr.block _ (Array.getElem?_eq_some_iff.1 h3).1 fun e => by have := (hrow _ e.symm).1; omega).trans h3
  · -- a round
    rintro pre x W ⟨hi, hr, hd⟩ hlen
    have hlt : w.heap.size + 1 < W.heap.size := (Array.getElem?_eq_some_iff.1 hr).1
    have hy := run_yield (P := P) (args := #[Value.agg #[.int .i64 x.1, .int .i64 x.2]]) hr (by rw [hrc]; exact hps.symm)
    rw [hrc] at hy
    obtain ⟨V, hV⟩ : ∃ V, W.alloc (.cells (cE x).toArray tE) = V := ⟨_, rfl⟩
    have hbx : hp.Blk V W.heap.size tE (cE x) := by rw [← hV]; exact World.alloc_heap_new W _
    have hsV : V.heap.size = W.heap.size + 1 := by rw [← hV]; simp
    have hrV : V.heap[w.heap.size + 1]? = some (.loop (rc .ready)) := by rw [← hV]; exact (Below.heap_alloc _ _ _ (by omega)).trans hr
    have hdV : V.heap[w.heap.size]? = some (.deferred (some [])) := by rw [← hV]; exact (Below.heap_alloc _ _ _ (by omega)).trans hd
    have hiV : I pre V := by rw [← hV]; exact hI.alloc _ hi
    have kV : Kp n₀ (w.heap.size + 2) t W V := by rw [← hV]; exact Kp.alloc _ (by omega)
    have hltV : w.heap.size + 1 < V.heap.size := by omega
    have hbeg := run_beginRound (P := P) hrV (by rw [hrc])
    obtain ⟨W2, hW2⟩ : ∃ W2, V.putObj (w.heap.size + 1) (.loop (rc .busy)) = W2 := ⟨_, rfl⟩
    have hbusy : ({ rc .ready with state := .busy } : Loop) = rc .busy := by rw [hrc, hrc]
    rw [hbusy, hW2] at hbeg
    have k2 : Kp n₀ (w.heap.size + 2) t V W2 := hW2 ▸ Kp.put _ (by omega) (by omega) hrV rfl
    have hr2 : W2.heap[w.heap.size + 1]? = some (.loop (rc .busy)) := hW2 ▸ World.putObj_heap_same hltV
    have hd2 : W2.heap[w.heap.size]? = some (.deferred (some [])) := hW2 ▸ (World.putObj_heap_other (by omega)).trans hdV
    have hi2 : I pre W2 := hW2 ▸ hI.putObj _ hiV (by omega) hrV rfl
    have hb2 : hp.Blk W2 W.heap.size tE (cE x) := by rw [← hW2]; exact (World.putObj_heap_other (by omega)).trans hbx
    refine ⟨fn, _, assign, body, hy, round_wide (roundIn_of_wpIn (n := 7) hfn (hassign _ x W _ (hV ▸ ⟨W2, hbeg, ?_⟩)))⟩
    refine wpIn_mono (hbody _ pre x W W2 hi2 hb2 (by omega) hlen) ?_
    rintro e a3 W3 ⟨rfl, k3, hi3⟩
    have hr3 := k3.2.1.same _ _ (by omega) hr2 rfl
    have hd3 := k3.2.1.same _ _ (Nat.le_refl _) hd2 rfl
    have hlt3 : w.heap.size + 1 < W3.heap.size := (Array.getElem?_eq_some_iff.1 hr3).1
    have hend := run_endRound (P := P) none hr3
    have hready : ({ rc .busy with state := if (none : Option Code).isNone then .ready else .done, pending := none } : Loop) = rc .ready := by rw [hrc, hrc]; rfl
    rw [hready] at hend
    rw [hW1]
    exact ⟨_, _, hend, rfl, ⟨hI.putObj _ hi3 (by omega) hr3 rfl, World.putObj_heap_same hlt3, (World.putObj_heap_other (by omega)).trans hd3⟩, (kV.trans (k2.trans (k3.up (by omega)))).trans (Kp.put _ (by omega) (by omega) hr3 rfl)⟩
  · -- behind the iterator
    rintro e W2 ⟨⟨v, rfl⟩, hi, hr, hd⟩
    have hend := run_endLoop (P := P) hr (by rw [hrc]; simp)
    rw [show (rc .ready).pending = none by rw [hrc]] at hend
    exact ⟨none, _, hend, hdone _ (hI.putObj _ hi (by omega) hr rfl) ((World.putObj_heap_other (by omega)).trans hd)⟩
end Go.Proofs.Ytfbeiimmcemniaa.pri
